/-
  DERIVED. GIVEN WITH THE SEED: THE CARDS: each row of YtabcnkobojkdhaaDoorRows.lean that lists a variable, with what it lists TIED to the program's text (the seventh form; the later family's looks); each row that meets fmt, with fmt's text TOLD by the authors' own Lean function (tested against real Go, not proved from fmt's source: count such statements apart). THE CARD IS WHAT COUNTS. Prove the row's statement (the work); the ties are given (YtabcnkobojkdhaaDoorTie.lean); close each card by the builder's one call (the guide's Derived/Test/ToyasCard.lean, 'card_holds'). Laid BY PROGRAM, IN A SANDBOX (cutbox-door.mjs). By AI agents, Wed Nov 11 2026. No macro, syntax, notation, axiom, sorry.
-/
import Derived.Test.YtabcnkobojkdhaaDoorRows
import GoSem.ClaimSeven
namespace Go.Proofs.YtabcnkobojkdhaaDoor
namespace Rows

/-- THE TIED CARD OF 'laws.FnExactAddPoints'. -/
def fnExactAddPointsCard : Claim7 := { stood := { row := fnExactAddPointsRow, standIns := [], harness := (true, "ccfab71395af3643ed44262e30191a63a372ace2c33c0e9864fb4775dbc2653e"), looks := false }, kinds := [], alts := [], laidByText := true, laidKinds := [.data], laidTests := true, laidLooks := .later }
def FnExactAddPointsCardSaid : Prop := Claim7.holds Tryd.pinned (.plain (OpenSpec.ofChange fnExactAddPointsSpec)) fnExactAddPointsCard

/-- THE TIED CARD OF 'laws.FnExactDoublePoint'. -/
def fnExactDoublePointCard : Claim7 := { stood := { row := fnExactDoublePointRow, standIns := [], harness := (true, "ccfab71395af3643ed44262e30191a63a372ace2c33c0e9864fb4775dbc2653e"), looks := false }, kinds := [], alts := [], laidByText := true, laidKinds := [.data], laidTests := true, laidLooks := .later }
def FnExactDoublePointCardSaid : Prop := Claim7.holds Tryd.pinned (.plain (OpenSpec.ofChange fnExactDoublePointSpec)) fnExactDoublePointCard

/-- THE TIED CARD OF 'laws.FnExactMultiplePoint'. -/
def fnExactMultiplePointCard : Claim7 := { stood := { row := fnExactMultiplePointRow, standIns := [], harness := (true, "ccfab71395af3643ed44262e30191a63a372ace2c33c0e9864fb4775dbc2653e"), looks := false }, kinds := [], alts := [], laidByText := true, laidKinds := [.data], laidTests := true, laidLooks := .later }
def FnExactMultiplePointCardSaid : Prop := Claim7.holds Tryd.pinned (.plain (OpenSpec.ofChange fnExactMultiplePointSpec)) fnExactMultiplePointCard

/-- THE TIED CARD OF 'laws.FnExactMultiplesOf'. -/
def fnExactMultiplesOfCard : Claim7 := { stood := { row := fnExactMultiplesOfRow, standIns := [], harness := (true, "ccfab71395af3643ed44262e30191a63a372ace2c33c0e9864fb4775dbc2653e"), looks := false }, kinds := [], alts := [], laidByText := true, laidKinds := [.data], laidTests := true, laidLooks := .later }
def FnExactMultiplesOfCardSaid : Prop := Claim7.holds Tryd.pinned (.plain (OpenSpec.ofChange fnExactMultiplesOfSpec)) fnExactMultiplesOfCard

/-- THE TIED CARD OF 'laws.FnExactOrderOfPoint'. -/
def fnExactOrderOfPointCard : Claim7 := { stood := { row := fnExactOrderOfPointRow, standIns := [], harness := (true, "ccfab71395af3643ed44262e30191a63a372ace2c33c0e9864fb4775dbc2653e"), looks := false }, kinds := [], alts := [], laidByText := true, laidKinds := [.data], laidTests := true, laidLooks := .later }
def FnExactOrderOfPointCardSaid : Prop := Claim7.holds Tryd.pinned (.plain (OpenSpec.ofChange fnExactOrderOfPointSpec)) fnExactOrderOfPointCard

/-- THE TIED CARD OF 'laws.FnExactAreCollinear'. -/
def fnExactAreCollinearCard : Claim7 := { stood := { row := fnExactAreCollinearRow, standIns := [], harness := (true, "ccfab71395af3643ed44262e30191a63a372ace2c33c0e9864fb4775dbc2653e"), looks := false }, kinds := [], alts := [], laidByText := true, laidKinds := [.data], laidTests := true, laidLooks := .later }
def FnExactAreCollinearCardSaid : Prop := Claim7.holds Tryd.pinned (.plain (OpenSpec.ofChange fnExactAreCollinearSpec)) fnExactAreCollinearCard

/-- THE TIED CARD OF 'laws.FnExactSlopeOf'. -/
def fnExactSlopeOfCard : Claim7 := { stood := { row := fnExactSlopeOfRow, standIns := [], harness := (true, "ccfab71395af3643ed44262e30191a63a372ace2c33c0e9864fb4775dbc2653e"), looks := false }, kinds := [], alts := [], laidByText := true, laidKinds := [.data], laidTests := true, laidLooks := .later }
def FnExactSlopeOfCardSaid : Prop := Claim7.holds Tryd.pinned (.plain (OpenSpec.ofChange fnExactSlopeOfSpec)) fnExactSlopeOfCard

/-- THE SECOND FORM's CARD OF 'laws.FnExactAddPoints'. -/
def fnExactAddPointsUptoCard : Claim7 := { stood := { row := fnExactAddPointsUptoRow, standIns := [], harness := (true, "ccfab71395af3643ed44262e30191a63a372ace2c33c0e9864fb4775dbc2653e"), looks := false }, kinds := [], alts := [], laidByText := true, laidKinds := [.data], laidTests := true, laidLooks := .later }
def FnExactAddPointsUptoCardSaid : Prop := Claim7.holds Tryd.pinned (.plain (OpenSpec.upto fnExactAddPointsSpec)) fnExactAddPointsUptoCard

/-- THE SECOND FORM's CARD OF 'laws.FnExactDoublePoint'. -/
def fnExactDoublePointUptoCard : Claim7 := { stood := { row := fnExactDoublePointUptoRow, standIns := [], harness := (true, "ccfab71395af3643ed44262e30191a63a372ace2c33c0e9864fb4775dbc2653e"), looks := false }, kinds := [], alts := [], laidByText := true, laidKinds := [.data], laidTests := true, laidLooks := .later }
def FnExactDoublePointUptoCardSaid : Prop := Claim7.holds Tryd.pinned (.plain (OpenSpec.upto fnExactDoublePointSpec)) fnExactDoublePointUptoCard

/-- THE SECOND FORM's CARD OF 'laws.FnExactMultiplePoint'. -/
def fnExactMultiplePointUptoCard : Claim7 := { stood := { row := fnExactMultiplePointUptoRow, standIns := [], harness := (true, "ccfab71395af3643ed44262e30191a63a372ace2c33c0e9864fb4775dbc2653e"), looks := false }, kinds := [], alts := [], laidByText := true, laidKinds := [.data], laidTests := true, laidLooks := .later }
def FnExactMultiplePointUptoCardSaid : Prop := Claim7.holds Tryd.pinned (.plain (OpenSpec.upto fnExactMultiplePointSpec)) fnExactMultiplePointUptoCard

/-- THE SECOND FORM's CARD OF 'laws.FnExactMultiplesOf'. -/
def fnExactMultiplesOfUptoCard : Claim7 := { stood := { row := fnExactMultiplesOfUptoRow, standIns := [], harness := (true, "ccfab71395af3643ed44262e30191a63a372ace2c33c0e9864fb4775dbc2653e"), looks := false }, kinds := [], alts := [], laidByText := true, laidKinds := [.data], laidTests := true, laidLooks := .later }
def FnExactMultiplesOfUptoCardSaid : Prop := Claim7.holds Tryd.pinned (.plain (OpenSpec.upto fnExactMultiplesOfSpec)) fnExactMultiplesOfUptoCard

/-- THE SECOND FORM's CARD OF 'laws.FnExactOrderOfPoint'. -/
def fnExactOrderOfPointUptoCard : Claim7 := { stood := { row := fnExactOrderOfPointUptoRow, standIns := [], harness := (true, "ccfab71395af3643ed44262e30191a63a372ace2c33c0e9864fb4775dbc2653e"), looks := false }, kinds := [], alts := [], laidByText := true, laidKinds := [.data], laidTests := true, laidLooks := .later }
def FnExactOrderOfPointUptoCardSaid : Prop := Claim7.holds Tryd.pinned (.plain (OpenSpec.upto fnExactOrderOfPointSpec)) fnExactOrderOfPointUptoCard

/-- THE SECOND FORM's CARD OF 'laws.FnExactAreCollinear'. -/
def fnExactAreCollinearUptoCard : Claim7 := { stood := { row := fnExactAreCollinearUptoRow, standIns := [], harness := (true, "ccfab71395af3643ed44262e30191a63a372ace2c33c0e9864fb4775dbc2653e"), looks := false }, kinds := [], alts := [], laidByText := true, laidKinds := [.data], laidTests := true, laidLooks := .later }
def FnExactAreCollinearUptoCardSaid : Prop := Claim7.holds Tryd.pinned (.plain (OpenSpec.upto fnExactAreCollinearSpec)) fnExactAreCollinearUptoCard

/-- THE SECOND FORM's CARD OF 'laws.FnExactSlopeOf'. -/
def fnExactSlopeOfUptoCard : Claim7 := { stood := { row := fnExactSlopeOfUptoRow, standIns := [], harness := (true, "ccfab71395af3643ed44262e30191a63a372ace2c33c0e9864fb4775dbc2653e"), looks := false }, kinds := [], alts := [], laidByText := true, laidKinds := [.data], laidTests := true, laidLooks := .later }
def FnExactSlopeOfUptoCardSaid : Prop := Claim7.holds Tryd.pinned (.plain (OpenSpec.upto fnExactSlopeOfSpec)) fnExactSlopeOfUptoCard
end Rows
end Go.Proofs.YtabcnkobojkdhaaDoor
