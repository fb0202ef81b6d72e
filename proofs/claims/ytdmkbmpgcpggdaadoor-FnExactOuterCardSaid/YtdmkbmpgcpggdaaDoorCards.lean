/-
  DERIVED. GIVEN WITH THE SEED: THE CARDS: each row of YtdmkbmpgcpggdaaDoorRows.lean that lists a variable, with what it lists TIED to the program's text (the seventh form; the later family's looks); each row that meets fmt, with fmt's text TOLD by the authors' own Lean function (tested against real Go, not proved from fmt's source: count such statements apart). THE CARD IS WHAT COUNTS. Prove the row's statement (the work); the ties are given (YtdmkbmpgcpggdaaDoorTie.lean); close each card by the builder's one call (the guide's Derived/Test/ToyasCard.lean, 'card_holds'). Laid BY PROGRAM, IN A SANDBOX (cutbox-door.mjs). By AI agents, Wed Nov 11 2026. No macro, syntax, notation, axiom, sorry.
-/
import Derived.Test.YtdmkbmpgcpggdaaDoorRows
import GoSem.ClaimSeven
namespace Go.Proofs.YtdmkbmpgcpggdaaDoor
namespace Rows

/-- THE TIED CARD OF 'laws.FnMatrices'. -/
def fnMatricesCard : Claim7 := { stood := { row := fnMatricesRow, standIns := [], harness := (true, "708d68db320b224dfc7bb0a1252b053ed2bb047da113799745038b9a130de2fa"), looks := true }, kinds := [], alts := [], laidByText := true, laidKinds := [.handle], laidTests := true, laidLooks := .later }
def FnMatricesCardSaid : Prop := Claim7.holds Tryd.pinned (.plain (OpenSpec.ofChange fnMatricesSpec)) fnMatricesCard

/-- THE TIED CARD OF 'laws.FnExactMatVec'. -/
def fnExactMatVecCard : Claim7 := { stood := { row := fnExactMatVecRow, standIns := [], harness := (true, "708d68db320b224dfc7bb0a1252b053ed2bb047da113799745038b9a130de2fa"), looks := true }, kinds := [], alts := [], laidByText := true, laidKinds := [.handle], laidTests := true, laidLooks := .later }
def FnExactMatVecCardSaid : Prop := Claim7.holds Tryd.pinned (.plain (OpenSpec.ofChange fnExactMatVecSpec)) fnExactMatVecCard

/-- THE TIED CARD OF 'laws.FnExactMatBack'. -/
def fnExactMatBackCard : Claim7 := { stood := { row := fnExactMatBackRow, standIns := [], harness := (true, "708d68db320b224dfc7bb0a1252b053ed2bb047da113799745038b9a130de2fa"), looks := true }, kinds := [], alts := [], laidByText := true, laidKinds := [.handle], laidTests := true, laidLooks := .later }
def FnExactMatBackCardSaid : Prop := Claim7.holds Tryd.pinned (.plain (OpenSpec.ofChange fnExactMatBackSpec)) fnExactMatBackCard

/-- THE TIED CARD OF 'laws.FnExactOuter'. -/
def fnExactOuterCard : Claim7 := { stood := { row := fnExactOuterRow, standIns := [], harness := (true, "708d68db320b224dfc7bb0a1252b053ed2bb047da113799745038b9a130de2fa"), looks := true }, kinds := [], alts := [], laidByText := true, laidKinds := [.handle], laidTests := true, laidLooks := .later }
def FnExactOuterCardSaid : Prop := Claim7.holds Tryd.pinned (.plain (OpenSpec.ofChange fnExactOuterSpec)) fnExactOuterCard

/-- THE SECOND FORM's CARD OF 'laws.FnMatrices'. -/
def fnMatricesUptoCard : Claim7 := { stood := { row := fnMatricesUptoRow, standIns := [], harness := (true, "708d68db320b224dfc7bb0a1252b053ed2bb047da113799745038b9a130de2fa"), looks := true }, kinds := [], alts := [], laidByText := true, laidKinds := [.handle], laidTests := true, laidLooks := .later }
def FnMatricesUptoCardSaid : Prop := Claim7.holds Tryd.pinned (.plain (OpenSpec.upto fnMatricesSpec)) fnMatricesUptoCard

/-- THE SECOND FORM's CARD OF 'laws.FnExactMatVec'. -/
def fnExactMatVecUptoCard : Claim7 := { stood := { row := fnExactMatVecUptoRow, standIns := [], harness := (true, "708d68db320b224dfc7bb0a1252b053ed2bb047da113799745038b9a130de2fa"), looks := true }, kinds := [], alts := [], laidByText := true, laidKinds := [.handle], laidTests := true, laidLooks := .later }
def FnExactMatVecUptoCardSaid : Prop := Claim7.holds Tryd.pinned (.plain (OpenSpec.upto fnExactMatVecSpec)) fnExactMatVecUptoCard

/-- THE SECOND FORM's CARD OF 'laws.FnExactMatBack'. -/
def fnExactMatBackUptoCard : Claim7 := { stood := { row := fnExactMatBackUptoRow, standIns := [], harness := (true, "708d68db320b224dfc7bb0a1252b053ed2bb047da113799745038b9a130de2fa"), looks := true }, kinds := [], alts := [], laidByText := true, laidKinds := [.handle], laidTests := true, laidLooks := .later }
def FnExactMatBackUptoCardSaid : Prop := Claim7.holds Tryd.pinned (.plain (OpenSpec.upto fnExactMatBackSpec)) fnExactMatBackUptoCard

/-- THE SECOND FORM's CARD OF 'laws.FnExactOuter'. -/
def fnExactOuterUptoCard : Claim7 := { stood := { row := fnExactOuterUptoRow, standIns := [], harness := (true, "708d68db320b224dfc7bb0a1252b053ed2bb047da113799745038b9a130de2fa"), looks := true }, kinds := [], alts := [], laidByText := true, laidKinds := [.handle], laidTests := true, laidLooks := .later }
def FnExactOuterUptoCardSaid : Prop := Claim7.holds Tryd.pinned (.plain (OpenSpec.upto fnExactOuterSpec)) fnExactOuterUptoCard
end Rows
end Go.Proofs.YtdmkbmpgcpggdaaDoor
