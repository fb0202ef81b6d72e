/-
  DERIVED. GIVEN WITH THE SEED: THE CARDS: each row of YtgnjcfbfbpjndaaDoorRows.lean that lists a variable, with what it lists TIED to the program's text (the seventh form; the later family's looks); each row that meets fmt, with fmt's text TOLD by the authors' own Lean function (tested against real Go, not proved from fmt's source: count such statements apart). THE CARD IS WHAT COUNTS. Prove the row's statement (the work); the ties are given (YtgnjcfbfbpjndaaDoorTie.lean); close each card by the builder's one call (the guide's Derived/Test/ToyasCard.lean, 'card_holds'). Laid BY PROGRAM, IN A SANDBOX (cutbox-door.mjs). By AI agents, Wed Nov 11 2026. No macro, syntax, notation, axiom, sorry.
-/
import Derived.Test.YtgnjcfbfbpjndaaDoorRows
import GoSem.ClaimSeven
namespace Go.Proofs.YtgnjcfbfbpjndaaDoor
namespace Rows

/-- THE TIED CARD OF 'laws.FnExactAddGrads'. -/
def fnExactAddGradsCard : Claim7 := { stood := { row := fnExactAddGradsRow, standIns := [], harness := (true, "a2a989a190ff70d292043364e056c2a85345dfca81972becc8eb13fc22a5a7c4"), looks := true }, kinds := [], alts := [], laidByText := true, laidKinds := [.handle], laidTests := true, laidLooks := .later }
def FnExactAddGradsCardSaid : Prop := Claim7.holds Tryd.pinned (.plain (OpenSpec.ofChange fnExactAddGradsSpec)) fnExactAddGradsCard

/-- THE SECOND FORM's CARD OF 'laws.FnExactAddGrads'. -/
def fnExactAddGradsUptoCard : Claim7 := { stood := { row := fnExactAddGradsUptoRow, standIns := [], harness := (true, "a2a989a190ff70d292043364e056c2a85345dfca81972becc8eb13fc22a5a7c4"), looks := true }, kinds := [], alts := [], laidByText := true, laidKinds := [.handle], laidTests := true, laidLooks := .later }
def FnExactAddGradsUptoCardSaid : Prop := Claim7.holds Tryd.pinned (.plain (OpenSpec.upto fnExactAddGradsSpec)) fnExactAddGradsUptoCard
end Rows
end Go.Proofs.YtgnjcfbfbpjndaaDoor
