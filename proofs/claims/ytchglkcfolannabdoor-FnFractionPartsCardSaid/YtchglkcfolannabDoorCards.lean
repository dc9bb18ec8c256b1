/-
  DERIVED. GIVEN WITH THE SEED: THE CARDS: each row of YtchglkcfolannabDoorRows.lean that lists a variable, with what it lists TIED to the program's text (the seventh form; the later family's looks); each row that meets fmt, with fmt's text TOLD by the authors' own Lean function (tested against real Go, not proved from fmt's source: count such statements apart). THE CARD IS WHAT COUNTS. Prove the row's statement (the work); the ties are given (YtchglkcfolannabDoorTie.lean); close each card by the builder's one call (the guide's Derived/Test/ToyasCard.lean, 'card_holds'). Laid BY PROGRAM, IN A SANDBOX (cutbox-door.mjs). By AI agents, Wed Nov 11 2026. No macro, syntax, notation, axiom, sorry.
-/
import Derived.Test.YtchglkcfolannabDoorRows
import GoSem.ClaimSeven
namespace Go.Proofs.YtchglkcfolannabDoor
namespace Rows

/-- THE TIED CARD OF 'laws.FnFractionParts'. -/
def fnFractionPartsCard : Claim7 := { stood := { row := fnFractionPartsRow, standIns := [], harness := (true, "3f55187982d39bb0635c2f26f7600ec56312af3a171dd315906e2f239c79f317"), looks := false }, kinds := [], alts := [], laidByText := true, laidKinds := [.data, .data, .data, .data], laidTests := true, laidLooks := .later }
def FnFractionPartsCardSaid : Prop := Claim7.holds Tryd.pinned (.plain (OpenSpec.ofChange fnFractionPartsSpec)) fnFractionPartsCard

/-- THE SECOND FORM's CARD OF 'laws.FnFractionParts'. -/
def fnFractionPartsUptoCard : Claim7 := { stood := { row := fnFractionPartsUptoRow, standIns := [], harness := (true, "3f55187982d39bb0635c2f26f7600ec56312af3a171dd315906e2f239c79f317"), looks := false }, kinds := [], alts := [], laidByText := true, laidKinds := [.data, .data, .data, .data], laidTests := true, laidLooks := .later }
def FnFractionPartsUptoCardSaid : Prop := Claim7.holds Tryd.pinned (.plain (OpenSpec.upto fnFractionPartsSpec)) fnFractionPartsUptoCard
end Rows
end Go.Proofs.YtchglkcfolannabDoor
