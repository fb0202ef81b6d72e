/-
  DERIVED. GIVEN WITH THE SEED: THE CARDS: each row of YtpnifgpmleaohaaGreatDoorRows.lean that lists a variable, with what it lists TIED to the program's text (the seventh form; the later family's looks); each row that meets fmt, with fmt's text TOLD by the authors' own Lean function (tested against real Go, not proved from fmt's source: count such statements apart). THE CARD IS WHAT COUNTS. Prove the row's statement (the work); the ties are given (YtpnifgpmleaohaaGreatDoorTie.lean); close each card by the builder's one call (the guide's Derived/Test/ToyasCard.lean, 'card_holds'). Laid BY PROGRAM, IN A SANDBOX (cutbox-door.mjs). By AI agents, Wed Nov 11 2026. No macro, syntax, notation, axiom, sorry.
-/
import Derived.Test.YtpnifgpmleaohaaGreatDoorRows
import GoSem.ClaimSeven
namespace Go.Proofs.YtpnifgpmleaohaaGreatDoor
namespace Rows

/-- THE TIED CARD OF 'laws.FnOnceMore'. -/
def fnOnceMoreCard : Claim7 := { stood := { row := fnOnceMoreRow, standIns := [], harness := (true, "0c59059b7437635f918c6bc1bfef2c3abd0933473b3d8ce622f9b544a6dae902"), looks := true }, kinds := [], alts := [], laidByText := true, laidKinds := [.handle], laidTests := true, laidLooks := .later }
def FnOnceMoreCardSaid : Prop := Claim7.holds Tryz.pinned (.plain (OpenSpec.ofChange fnOnceMoreSpec)) fnOnceMoreCard

/-- THE TIED CARD OF 'laws.FnSizes'. -/
def fnSizesCard : Claim7 := { stood := { row := fnSizesRow, standIns := [], harness := (true, "0c59059b7437635f918c6bc1bfef2c3abd0933473b3d8ce622f9b544a6dae902"), looks := true }, kinds := [], alts := [], laidByText := true, laidKinds := [.handle], laidTests := true, laidLooks := .later }
def FnSizesCardSaid : Prop := Claim7.holds Tryz.pinned (.plain (OpenSpec.ofChange fnSizesSpec)) fnSizesCard

/-- THE TIED CARD OF 'laws.FnInARow'. -/
def fnInARowCard : Claim7 := { stood := { row := fnInARowRow, standIns := [], harness := (true, "0c59059b7437635f918c6bc1bfef2c3abd0933473b3d8ce622f9b544a6dae902"), looks := true }, kinds := [], alts := [], laidByText := true, laidKinds := [.handle], laidTests := true, laidLooks := .later }
def FnInARowCardSaid : Prop := Claim7.holds Tryz.pinned (.plain (OpenSpec.ofChange fnInARowSpec)) fnInARowCard

/-- THE TIED CARD OF 'laws.FnExactMicroGrads'. -/
def fnExactMicroGradsCard : Claim7 := { stood := { row := fnExactMicroGradsRow, standIns := [], harness := (true, "0c59059b7437635f918c6bc1bfef2c3abd0933473b3d8ce622f9b544a6dae902"), looks := true }, kinds := [], alts := [], laidByText := true, laidKinds := [.handle], laidTests := true, laidLooks := .later }
def FnExactMicroGradsCardSaid : Prop := Claim7.holds Tryz.pinned (.plain (OpenSpec.ofChange fnExactMicroGradsSpec)) fnExactMicroGradsCard

/-- THE TIED CARD OF 'laws.FnExactSequential'. -/
def fnExactSequentialCard : Claim7 := { stood := { row := fnExactSequentialRow, standIns := [], harness := (true, "0c59059b7437635f918c6bc1bfef2c3abd0933473b3d8ce622f9b544a6dae902"), looks := true }, kinds := [], alts := [], laidByText := true, laidKinds := [.handle], laidTests := true, laidLooks := .later }
def FnExactSequentialCardSaid : Prop := Claim7.holds Tryz.pinned (.plain (OpenSpec.ofChange fnExactSequentialSpec)) fnExactSequentialCard

/-- THE TIED CARD OF 'laws.FnExactStageFwd'. -/
def fnExactStageFwdCard : Claim7 := { stood := { row := fnExactStageFwdRow, standIns := [], harness := (true, "0c59059b7437635f918c6bc1bfef2c3abd0933473b3d8ce622f9b544a6dae902"), looks := true }, kinds := [], alts := [], laidByText := true, laidKinds := [.handle], laidTests := true, laidLooks := .later }
def FnExactStageFwdCardSaid : Prop := Claim7.holds Tryz.pinned (.plain (OpenSpec.ofChange fnExactStageFwdSpec)) fnExactStageFwdCard

/-- THE TIED CARD OF 'laws.FnExactStageBwd'. -/
def fnExactStageBwdCard : Claim7 := { stood := { row := fnExactStageBwdRow, standIns := [], harness := (true, "0c59059b7437635f918c6bc1bfef2c3abd0933473b3d8ce622f9b544a6dae902"), looks := true }, kinds := [], alts := [], laidByText := true, laidKinds := [.handle], laidTests := true, laidLooks := .later }
def FnExactStageBwdCardSaid : Prop := Claim7.holds Tryz.pinned (.plain (OpenSpec.ofChange fnExactStageBwdSpec)) fnExactStageBwdCard

/-- THE SECOND FORM's CARD OF 'laws.FnOnceMore'. -/
def fnOnceMoreUptoCard : Claim7 := { stood := { row := fnOnceMoreUptoRow, standIns := [], harness := (true, "0c59059b7437635f918c6bc1bfef2c3abd0933473b3d8ce622f9b544a6dae902"), looks := true }, kinds := [], alts := [], laidByText := true, laidKinds := [.handle], laidTests := true, laidLooks := .later }
def FnOnceMoreUptoCardSaid : Prop := Claim7.holds Tryz.pinned (.plain (OpenSpec.upto fnOnceMoreSpec)) fnOnceMoreUptoCard

/-- THE SECOND FORM's CARD OF 'laws.FnSizes'. -/
def fnSizesUptoCard : Claim7 := { stood := { row := fnSizesUptoRow, standIns := [], harness := (true, "0c59059b7437635f918c6bc1bfef2c3abd0933473b3d8ce622f9b544a6dae902"), looks := true }, kinds := [], alts := [], laidByText := true, laidKinds := [.handle], laidTests := true, laidLooks := .later }
def FnSizesUptoCardSaid : Prop := Claim7.holds Tryz.pinned (.plain (OpenSpec.upto fnSizesSpec)) fnSizesUptoCard

/-- THE SECOND FORM's CARD OF 'laws.FnInARow'. -/
def fnInARowUptoCard : Claim7 := { stood := { row := fnInARowUptoRow, standIns := [], harness := (true, "0c59059b7437635f918c6bc1bfef2c3abd0933473b3d8ce622f9b544a6dae902"), looks := true }, kinds := [], alts := [], laidByText := true, laidKinds := [.handle], laidTests := true, laidLooks := .later }
def FnInARowUptoCardSaid : Prop := Claim7.holds Tryz.pinned (.plain (OpenSpec.upto fnInARowSpec)) fnInARowUptoCard

/-- THE SECOND FORM's CARD OF 'laws.FnExactMicroGrads'. -/
def fnExactMicroGradsUptoCard : Claim7 := { stood := { row := fnExactMicroGradsUptoRow, standIns := [], harness := (true, "0c59059b7437635f918c6bc1bfef2c3abd0933473b3d8ce622f9b544a6dae902"), looks := true }, kinds := [], alts := [], laidByText := true, laidKinds := [.handle], laidTests := true, laidLooks := .later }
def FnExactMicroGradsUptoCardSaid : Prop := Claim7.holds Tryz.pinned (.plain (OpenSpec.upto fnExactMicroGradsSpec)) fnExactMicroGradsUptoCard

/-- THE SECOND FORM's CARD OF 'laws.FnExactSequential'. -/
def fnExactSequentialUptoCard : Claim7 := { stood := { row := fnExactSequentialUptoRow, standIns := [], harness := (true, "0c59059b7437635f918c6bc1bfef2c3abd0933473b3d8ce622f9b544a6dae902"), looks := true }, kinds := [], alts := [], laidByText := true, laidKinds := [.handle], laidTests := true, laidLooks := .later }
def FnExactSequentialUptoCardSaid : Prop := Claim7.holds Tryz.pinned (.plain (OpenSpec.upto fnExactSequentialSpec)) fnExactSequentialUptoCard

/-- THE SECOND FORM's CARD OF 'laws.FnExactStageFwd'. -/
def fnExactStageFwdUptoCard : Claim7 := { stood := { row := fnExactStageFwdUptoRow, standIns := [], harness := (true, "0c59059b7437635f918c6bc1bfef2c3abd0933473b3d8ce622f9b544a6dae902"), looks := true }, kinds := [], alts := [], laidByText := true, laidKinds := [.handle], laidTests := true, laidLooks := .later }
def FnExactStageFwdUptoCardSaid : Prop := Claim7.holds Tryz.pinned (.plain (OpenSpec.upto fnExactStageFwdSpec)) fnExactStageFwdUptoCard

/-- THE SECOND FORM's CARD OF 'laws.FnExactStageBwd'. -/
def fnExactStageBwdUptoCard : Claim7 := { stood := { row := fnExactStageBwdUptoRow, standIns := [], harness := (true, "0c59059b7437635f918c6bc1bfef2c3abd0933473b3d8ce622f9b544a6dae902"), looks := true }, kinds := [], alts := [], laidByText := true, laidKinds := [.handle], laidTests := true, laidLooks := .later }
def FnExactStageBwdUptoCardSaid : Prop := Claim7.holds Tryz.pinned (.plain (OpenSpec.upto fnExactStageBwdSpec)) fnExactStageBwdUptoCard
end Rows
end Go.Proofs.YtpnifgpmleaohaaGreatDoor
