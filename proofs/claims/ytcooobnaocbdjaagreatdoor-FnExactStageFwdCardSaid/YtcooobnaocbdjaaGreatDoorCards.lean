/-
  DERIVED. GIVEN WITH THE SEED: THE CARDS: each row of YtcooobnaocbdjaaGreatDoorRows.lean that lists a variable, with what it lists TIED to the program's text (the seventh form; the later family's looks); each row that meets fmt, with fmt's text TOLD by the authors' own Lean function (tested against real Go, not proved from fmt's source: count such statements apart). THE CARD IS WHAT COUNTS. Prove the row's statement (the work); the ties are given (YtcooobnaocbdjaaGreatDoorTie.lean); close each card by the builder's one call (the guide's Derived/Test/ToyasCard.lean, 'card_holds'). Laid BY PROGRAM, IN A SANDBOX (cutbox-door.mjs). By AI agents, Wed Nov 11 2026. No macro, syntax, notation, axiom, sorry.
-/
import Derived.Test.YtcooobnaocbdjaaGreatDoorRows
import GoSem.ClaimSeven
namespace Go.Proofs.YtcooobnaocbdjaaGreatDoor
namespace Rows

/-- THE TIED CARD OF 'laws.FnOnceMore'. -/
def fnOnceMoreCard : Claim7 := { stood := { row := fnOnceMoreRow, standIns := [], harness := (true, "29d4afa96f6e152997dc8f798aed491c541ce6fa2bb0488f453018df145d2da0"), looks := true }, kinds := [], alts := [], laidByText := true, laidKinds := [.handle], laidTests := true, laidLooks := .later }
def FnOnceMoreCardSaid : Prop := Claim7.holds Tryz.pinned (.plain (OpenSpec.ofChange fnOnceMoreSpec)) fnOnceMoreCard

/-- THE TIED CARD OF 'laws.FnExactStageFwd'. -/
def fnExactStageFwdCard : Claim7 := { stood := { row := fnExactStageFwdRow, standIns := [], harness := (true, "29d4afa96f6e152997dc8f798aed491c541ce6fa2bb0488f453018df145d2da0"), looks := true }, kinds := [], alts := [], laidByText := true, laidKinds := [.handle], laidTests := true, laidLooks := .later }
def FnExactStageFwdCardSaid : Prop := Claim7.holds Tryz.pinned (.plain (OpenSpec.ofChange fnExactStageFwdSpec)) fnExactStageFwdCard

/-- THE TIED CARD OF 'laws.FnExactStageBwd'. -/
def fnExactStageBwdCard : Claim7 := { stood := { row := fnExactStageBwdRow, standIns := [], harness := (true, "29d4afa96f6e152997dc8f798aed491c541ce6fa2bb0488f453018df145d2da0"), looks := true }, kinds := [], alts := [], laidByText := true, laidKinds := [.handle], laidTests := true, laidLooks := .later }
def FnExactStageBwdCardSaid : Prop := Claim7.holds Tryz.pinned (.plain (OpenSpec.ofChange fnExactStageBwdSpec)) fnExactStageBwdCard

/-- THE TIED CARD OF 'laws.FnExactEnabled'. -/
def fnExactEnabledCard : Claim7 := { stood := { row := fnExactEnabledRow, standIns := [], harness := (true, "29d4afa96f6e152997dc8f798aed491c541ce6fa2bb0488f453018df145d2da0"), looks := true }, kinds := [], alts := [], laidByText := true, laidKinds := [.handle], laidTests := true, laidLooks := .later }
def FnExactEnabledCardSaid : Prop := Claim7.holds Tryz.pinned (.plain (OpenSpec.ofChange fnExactEnabledSpec)) fnExactEnabledCard

/-- THE TIED CARD OF 'laws.FnExactPick'. -/
def fnExactPickCard : Claim7 := { stood := { row := fnExactPickRow, standIns := [], harness := (true, "29d4afa96f6e152997dc8f798aed491c541ce6fa2bb0488f453018df145d2da0"), looks := true }, kinds := [], alts := [], laidByText := true, laidKinds := [.handle], laidTests := true, laidLooks := .later }
def FnExactPickCardSaid : Prop := Claim7.holds Tryz.pinned (.plain (OpenSpec.ofChange fnExactPickSpec)) fnExactPickCard

/-- THE SECOND FORM's CARD OF 'laws.FnOnceMore'. -/
def fnOnceMoreUptoCard : Claim7 := { stood := { row := fnOnceMoreUptoRow, standIns := [], harness := (true, "29d4afa96f6e152997dc8f798aed491c541ce6fa2bb0488f453018df145d2da0"), looks := true }, kinds := [], alts := [], laidByText := true, laidKinds := [.handle], laidTests := true, laidLooks := .later }
def FnOnceMoreUptoCardSaid : Prop := Claim7.holds Tryz.pinned (.plain (OpenSpec.upto fnOnceMoreSpec)) fnOnceMoreUptoCard

/-- THE SECOND FORM's CARD OF 'laws.FnExactStageFwd'. -/
def fnExactStageFwdUptoCard : Claim7 := { stood := { row := fnExactStageFwdUptoRow, standIns := [], harness := (true, "29d4afa96f6e152997dc8f798aed491c541ce6fa2bb0488f453018df145d2da0"), looks := true }, kinds := [], alts := [], laidByText := true, laidKinds := [.handle], laidTests := true, laidLooks := .later }
def FnExactStageFwdUptoCardSaid : Prop := Claim7.holds Tryz.pinned (.plain (OpenSpec.upto fnExactStageFwdSpec)) fnExactStageFwdUptoCard

/-- THE SECOND FORM's CARD OF 'laws.FnExactStageBwd'. -/
def fnExactStageBwdUptoCard : Claim7 := { stood := { row := fnExactStageBwdUptoRow, standIns := [], harness := (true, "29d4afa96f6e152997dc8f798aed491c541ce6fa2bb0488f453018df145d2da0"), looks := true }, kinds := [], alts := [], laidByText := true, laidKinds := [.handle], laidTests := true, laidLooks := .later }
def FnExactStageBwdUptoCardSaid : Prop := Claim7.holds Tryz.pinned (.plain (OpenSpec.upto fnExactStageBwdSpec)) fnExactStageBwdUptoCard

/-- THE SECOND FORM's CARD OF 'laws.FnExactEnabled'. -/
def fnExactEnabledUptoCard : Claim7 := { stood := { row := fnExactEnabledUptoRow, standIns := [], harness := (true, "29d4afa96f6e152997dc8f798aed491c541ce6fa2bb0488f453018df145d2da0"), looks := true }, kinds := [], alts := [], laidByText := true, laidKinds := [.handle], laidTests := true, laidLooks := .later }
def FnExactEnabledUptoCardSaid : Prop := Claim7.holds Tryz.pinned (.plain (OpenSpec.upto fnExactEnabledSpec)) fnExactEnabledUptoCard

/-- THE SECOND FORM's CARD OF 'laws.FnExactPick'. -/
def fnExactPickUptoCard : Claim7 := { stood := { row := fnExactPickUptoRow, standIns := [], harness := (true, "29d4afa96f6e152997dc8f798aed491c541ce6fa2bb0488f453018df145d2da0"), looks := true }, kinds := [], alts := [], laidByText := true, laidKinds := [.handle], laidTests := true, laidLooks := .later }
def FnExactPickUptoCardSaid : Prop := Claim7.holds Tryz.pinned (.plain (OpenSpec.upto fnExactPickSpec)) fnExactPickUptoCard
end Rows
end Go.Proofs.YtcooobnaocbdjaaGreatDoor
