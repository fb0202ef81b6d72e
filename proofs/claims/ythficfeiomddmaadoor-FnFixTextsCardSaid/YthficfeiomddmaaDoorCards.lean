/-
  DERIVED. GIVEN WITH THE SEED: THE CARDS: each row of YthficfeiomddmaaDoorRows.lean that lists a variable, with what it lists TIED to the program's text (the seventh form; the later family's looks); each row that meets fmt, with fmt's text TOLD by the authors' own Lean function (tested against real Go, not proved from fmt's source: count such statements apart). THE CARD IS WHAT COUNTS. Prove the row's statement (the work); the ties are given (YthficfeiomddmaaDoorTie.lean); close each card by the builder's one call (the guide's Derived/Test/ToyasCard.lean, 'card_holds'). Laid BY PROGRAM, IN A SANDBOX (cutbox-door.mjs). By AI agents, Wed Nov 11 2026. No macro, syntax, notation, axiom, sorry.
-/
import Derived.Test.YthficfeiomddmaaDoorRows
import GoSem.ClaimSeven
namespace Go.Proofs.YthficfeiomddmaaDoor
namespace Rows

/-- THE TIED CARD OF 'laws.FnFixed'. -/
def fnFixedCard : Claim7 := { stood := { row := fnFixedRow, standIns := [], harness := (true, "79e1aa8c5d4517c49de789a091d0201bf7b0fa9a1274108e7c607c08f9a9fd93"), looks := true }, kinds := [], alts := [], laidByText := true, laidKinds := [.handle], laidTests := true, laidLooks := .later }
def FnFixedCardSaid : Prop := Claim7.holds Tryd.pinned (.plain (OpenSpec.ofChange fnFixedSpec)) fnFixedCard

/-- THE TIED CARD OF 'laws.FnFixTexts'. -/
def fnFixTextsCard : Claim7 := { stood := { row := fnFixTextsRow, standIns := [], harness := (true, "79e1aa8c5d4517c49de789a091d0201bf7b0fa9a1274108e7c607c08f9a9fd93"), looks := true }, kinds := [], alts := [], laidByText := true, laidKinds := [.data, .data, .data, .sentinel, .sentinel], laidTests := true, laidLooks := .later }
def FnFixTextsCardSaid : Prop := Claim7.holds Tryd.pinned (.plain (OpenSpec.ofChange fnFixTextsSpec)) fnFixTextsCard

/-- THE TIED CARD OF 'laws.FnExactFixAdd'. -/
def fnExactFixAddCard : Claim7 := { stood := { row := fnExactFixAddRow, standIns := [], harness := (true, "79e1aa8c5d4517c49de789a091d0201bf7b0fa9a1274108e7c607c08f9a9fd93"), looks := true }, kinds := [], alts := [], laidByText := true, laidKinds := [.handle], laidTests := true, laidLooks := .later }
def FnExactFixAddCardSaid : Prop := Claim7.holds Tryd.pinned (.plain (OpenSpec.ofChange fnExactFixAddSpec)) fnExactFixAddCard

/-- THE TIED CARD OF 'laws.FnExactFixSub'. -/
def fnExactFixSubCard : Claim7 := { stood := { row := fnExactFixSubRow, standIns := [], harness := (true, "79e1aa8c5d4517c49de789a091d0201bf7b0fa9a1274108e7c607c08f9a9fd93"), looks := true }, kinds := [], alts := [], laidByText := true, laidKinds := [.handle], laidTests := true, laidLooks := .later }
def FnExactFixSubCardSaid : Prop := Claim7.holds Tryd.pinned (.plain (OpenSpec.ofChange fnExactFixSubSpec)) fnExactFixSubCard

/-- THE TIED CARD OF 'laws.FnExactFixMul'. -/
def fnExactFixMulCard : Claim7 := { stood := { row := fnExactFixMulRow, standIns := [], harness := (true, "79e1aa8c5d4517c49de789a091d0201bf7b0fa9a1274108e7c607c08f9a9fd93"), looks := true }, kinds := [], alts := [], laidByText := true, laidKinds := [.handle], laidTests := true, laidLooks := .later }
def FnExactFixMulCardSaid : Prop := Claim7.holds Tryd.pinned (.plain (OpenSpec.ofChange fnExactFixMulSpec)) fnExactFixMulCard

/-- THE TIED CARD OF 'laws.FnExactFixNeg'. -/
def fnExactFixNegCard : Claim7 := { stood := { row := fnExactFixNegRow, standIns := [], harness := (true, "79e1aa8c5d4517c49de789a091d0201bf7b0fa9a1274108e7c607c08f9a9fd93"), looks := true }, kinds := [], alts := [], laidByText := true, laidKinds := [.handle], laidTests := true, laidLooks := .later }
def FnExactFixNegCardSaid : Prop := Claim7.holds Tryd.pinned (.plain (OpenSpec.ofChange fnExactFixNegSpec)) fnExactFixNegCard

/-- THE TIED CARD OF 'laws.FnExactRelu'. -/
def fnExactReluCard : Claim7 := { stood := { row := fnExactReluRow, standIns := [], harness := (true, "79e1aa8c5d4517c49de789a091d0201bf7b0fa9a1274108e7c607c08f9a9fd93"), looks := true }, kinds := [], alts := [], laidByText := true, laidKinds := [.handle], laidTests := true, laidLooks := .later }
def FnExactReluCardSaid : Prop := Claim7.holds Tryd.pinned (.plain (OpenSpec.ofChange fnExactReluSpec)) fnExactReluCard

/-- THE TIED CARD OF 'laws.FnExactShowFix'. -/
def fnExactShowFixCard : Claim7 := { stood := { row := fnExactShowFixRow, standIns := [], harness := (true, "79e1aa8c5d4517c49de789a091d0201bf7b0fa9a1274108e7c607c08f9a9fd93"), looks := true }, kinds := [], alts := [], laidByText := true, laidKinds := [.data, .data, .data], laidTests := true, laidLooks := .later }
def FnExactShowFixCardSaid : Prop := Claim7.holds Tryd.pinned (.plain (OpenSpec.ofChange fnExactShowFixSpec)) fnExactShowFixCard

/-- THE TIED CARD OF 'laws.FnExactReadFix'. -/
def fnExactReadFixCard : Claim7 := { stood := { row := fnExactReadFixRow, standIns := [], harness := (true, "79e1aa8c5d4517c49de789a091d0201bf7b0fa9a1274108e7c607c08f9a9fd93"), looks := true }, kinds := [], alts := [], laidByText := true, laidKinds := [.data, .data, .data, .sentinel, .sentinel], laidTests := true, laidLooks := .later }
def FnExactReadFixCardSaid : Prop := Claim7.holds Tryd.pinned (.plain (OpenSpec.ofChange fnExactReadFixSpec)) fnExactReadFixCard

/-- THE SECOND FORM's CARD OF 'laws.FnFixed'. -/
def fnFixedUptoCard : Claim7 := { stood := { row := fnFixedUptoRow, standIns := [], harness := (true, "79e1aa8c5d4517c49de789a091d0201bf7b0fa9a1274108e7c607c08f9a9fd93"), looks := true }, kinds := [], alts := [], laidByText := true, laidKinds := [.handle], laidTests := true, laidLooks := .later }
def FnFixedUptoCardSaid : Prop := Claim7.holds Tryd.pinned (.plain (OpenSpec.upto fnFixedSpec)) fnFixedUptoCard

/-- THE SECOND FORM's CARD OF 'laws.FnFixTexts'. -/
def fnFixTextsUptoCard : Claim7 := { stood := { row := fnFixTextsUptoRow, standIns := [], harness := (true, "79e1aa8c5d4517c49de789a091d0201bf7b0fa9a1274108e7c607c08f9a9fd93"), looks := true }, kinds := [], alts := [], laidByText := true, laidKinds := [.data, .data, .data, .sentinel, .sentinel], laidTests := true, laidLooks := .later }
def FnFixTextsUptoCardSaid : Prop := Claim7.holds Tryd.pinned (.plain (OpenSpec.upto fnFixTextsSpec)) fnFixTextsUptoCard

/-- THE SECOND FORM's CARD OF 'laws.FnExactFixAdd'. -/
def fnExactFixAddUptoCard : Claim7 := { stood := { row := fnExactFixAddUptoRow, standIns := [], harness := (true, "79e1aa8c5d4517c49de789a091d0201bf7b0fa9a1274108e7c607c08f9a9fd93"), looks := true }, kinds := [], alts := [], laidByText := true, laidKinds := [.handle], laidTests := true, laidLooks := .later }
def FnExactFixAddUptoCardSaid : Prop := Claim7.holds Tryd.pinned (.plain (OpenSpec.upto fnExactFixAddSpec)) fnExactFixAddUptoCard

/-- THE SECOND FORM's CARD OF 'laws.FnExactFixSub'. -/
def fnExactFixSubUptoCard : Claim7 := { stood := { row := fnExactFixSubUptoRow, standIns := [], harness := (true, "79e1aa8c5d4517c49de789a091d0201bf7b0fa9a1274108e7c607c08f9a9fd93"), looks := true }, kinds := [], alts := [], laidByText := true, laidKinds := [.handle], laidTests := true, laidLooks := .later }
def FnExactFixSubUptoCardSaid : Prop := Claim7.holds Tryd.pinned (.plain (OpenSpec.upto fnExactFixSubSpec)) fnExactFixSubUptoCard

/-- THE SECOND FORM's CARD OF 'laws.FnExactFixMul'. -/
def fnExactFixMulUptoCard : Claim7 := { stood := { row := fnExactFixMulUptoRow, standIns := [], harness := (true, "79e1aa8c5d4517c49de789a091d0201bf7b0fa9a1274108e7c607c08f9a9fd93"), looks := true }, kinds := [], alts := [], laidByText := true, laidKinds := [.handle], laidTests := true, laidLooks := .later }
def FnExactFixMulUptoCardSaid : Prop := Claim7.holds Tryd.pinned (.plain (OpenSpec.upto fnExactFixMulSpec)) fnExactFixMulUptoCard

/-- THE SECOND FORM's CARD OF 'laws.FnExactFixNeg'. -/
def fnExactFixNegUptoCard : Claim7 := { stood := { row := fnExactFixNegUptoRow, standIns := [], harness := (true, "79e1aa8c5d4517c49de789a091d0201bf7b0fa9a1274108e7c607c08f9a9fd93"), looks := true }, kinds := [], alts := [], laidByText := true, laidKinds := [.handle], laidTests := true, laidLooks := .later }
def FnExactFixNegUptoCardSaid : Prop := Claim7.holds Tryd.pinned (.plain (OpenSpec.upto fnExactFixNegSpec)) fnExactFixNegUptoCard

/-- THE SECOND FORM's CARD OF 'laws.FnExactRelu'. -/
def fnExactReluUptoCard : Claim7 := { stood := { row := fnExactReluUptoRow, standIns := [], harness := (true, "79e1aa8c5d4517c49de789a091d0201bf7b0fa9a1274108e7c607c08f9a9fd93"), looks := true }, kinds := [], alts := [], laidByText := true, laidKinds := [.handle], laidTests := true, laidLooks := .later }
def FnExactReluUptoCardSaid : Prop := Claim7.holds Tryd.pinned (.plain (OpenSpec.upto fnExactReluSpec)) fnExactReluUptoCard

/-- THE SECOND FORM's CARD OF 'laws.FnExactShowFix'. -/
def fnExactShowFixUptoCard : Claim7 := { stood := { row := fnExactShowFixUptoRow, standIns := [], harness := (true, "79e1aa8c5d4517c49de789a091d0201bf7b0fa9a1274108e7c607c08f9a9fd93"), looks := true }, kinds := [], alts := [], laidByText := true, laidKinds := [.data, .data, .data], laidTests := true, laidLooks := .later }
def FnExactShowFixUptoCardSaid : Prop := Claim7.holds Tryd.pinned (.plain (OpenSpec.upto fnExactShowFixSpec)) fnExactShowFixUptoCard

/-- THE SECOND FORM's CARD OF 'laws.FnExactReadFix'. -/
def fnExactReadFixUptoCard : Claim7 := { stood := { row := fnExactReadFixUptoRow, standIns := [], harness := (true, "79e1aa8c5d4517c49de789a091d0201bf7b0fa9a1274108e7c607c08f9a9fd93"), looks := true }, kinds := [], alts := [], laidByText := true, laidKinds := [.data, .data, .data, .sentinel, .sentinel], laidTests := true, laidLooks := .later }
def FnExactReadFixUptoCardSaid : Prop := Claim7.holds Tryd.pinned (.plain (OpenSpec.upto fnExactReadFixSpec)) fnExactReadFixUptoCard
end Rows
end Go.Proofs.YthficfeiomddmaaDoor
