/-
  DERIVED. GIVEN WITH THE SEED: THE CARDS: each row of YteolfmhihnpjpaaDoorRows.lean that lists a variable, with what it lists TIED to the program's text (the seventh form; the later family's looks); each row that meets fmt, with fmt's text TOLD by the authors' own Lean function (tested against real Go, not proved from fmt's source: count such statements apart). THE CARD IS WHAT COUNTS. Prove the row's statement (the work); the ties are given (YteolfmhihnpjpaaDoorTie.lean); close each card by the builder's one call (the guide's Derived/Test/ToyasCard.lean, 'card_holds'). Laid BY PROGRAM, IN A SANDBOX (cutbox-door.mjs). By AI agents, Wed Nov 11 2026. No macro, syntax, notation, axiom, sorry.
-/
import Derived.Test.YteolfmhihnpjpaaDoorRows
import GoSem.ClaimSeven
namespace Go.Proofs.YteolfmhihnpjpaaDoor
namespace Rows

/-- THE TIED CARD OF 'laws.FnExactIsFraction'. -/
def fnExactIsFractionCard : Claim7 := { stood := { row := fnExactIsFractionRow, standIns := [], harness := (true, "143977fbee19420dd79f179737d8a45a5b33690474ceb384f3d363fbf1643583"), looks := false }, kinds := [], alts := [], laidByText := true, laidKinds := [.data], laidTests := true, laidLooks := .later }
def FnExactIsFractionCardSaid : Prop := Claim7.holds Tryd.pinned (.plain (OpenSpec.ofChange fnExactIsFractionSpec)) fnExactIsFractionCard

/-- THE TIED CARD OF 'laws.FnExactFractionOf'. -/
def fnExactFractionOfCard : Claim7 := { stood := { row := fnExactFractionOfRow, standIns := [], harness := (true, "143977fbee19420dd79f179737d8a45a5b33690474ceb384f3d363fbf1643583"), looks := false }, kinds := [], alts := [], laidByText := true, laidKinds := [.data], laidTests := true, laidLooks := .later }
def FnExactFractionOfCardSaid : Prop := Claim7.holds Tryd.pinned (.plain (OpenSpec.ofChange fnExactFractionOfSpec)) fnExactFractionOfCard

/-- THE TIED CARD OF 'laws.FnExactSumOf'. -/
def fnExactSumOfCard : Claim7 := { stood := { row := fnExactSumOfRow, standIns := [], harness := (true, "143977fbee19420dd79f179737d8a45a5b33690474ceb384f3d363fbf1643583"), looks := false }, kinds := [], alts := [], laidByText := true, laidKinds := [.data], laidTests := true, laidLooks := .later }
def FnExactSumOfCardSaid : Prop := Claim7.holds Tryd.pinned (.plain (OpenSpec.ofChange fnExactSumOfSpec)) fnExactSumOfCard

/-- THE TIED CARD OF 'laws.FnExactDifferenceOf'. -/
def fnExactDifferenceOfCard : Claim7 := { stood := { row := fnExactDifferenceOfRow, standIns := [], harness := (true, "143977fbee19420dd79f179737d8a45a5b33690474ceb384f3d363fbf1643583"), looks := false }, kinds := [], alts := [], laidByText := true, laidKinds := [.data], laidTests := true, laidLooks := .later }
def FnExactDifferenceOfCardSaid : Prop := Claim7.holds Tryd.pinned (.plain (OpenSpec.ofChange fnExactDifferenceOfSpec)) fnExactDifferenceOfCard

/-- THE TIED CARD OF 'laws.FnExactProductOf'. -/
def fnExactProductOfCard : Claim7 := { stood := { row := fnExactProductOfRow, standIns := [], harness := (true, "143977fbee19420dd79f179737d8a45a5b33690474ceb384f3d363fbf1643583"), looks := false }, kinds := [], alts := [], laidByText := true, laidKinds := [.data], laidTests := true, laidLooks := .later }
def FnExactProductOfCardSaid : Prop := Claim7.holds Tryd.pinned (.plain (OpenSpec.ofChange fnExactProductOfSpec)) fnExactProductOfCard

/-- THE TIED CARD OF 'laws.FnExactQuotientOf'. -/
def fnExactQuotientOfCard : Claim7 := { stood := { row := fnExactQuotientOfRow, standIns := [], harness := (true, "143977fbee19420dd79f179737d8a45a5b33690474ceb384f3d363fbf1643583"), looks := false }, kinds := [], alts := [], laidByText := true, laidKinds := [.data], laidTests := true, laidLooks := .later }
def FnExactQuotientOfCardSaid : Prop := Claim7.holds Tryd.pinned (.plain (OpenSpec.ofChange fnExactQuotientOfSpec)) fnExactQuotientOfCard

/-- THE TIED CARD OF 'laws.FnExactIsLess'. -/
def fnExactIsLessCard : Claim7 := { stood := { row := fnExactIsLessRow, standIns := [], harness := (true, "143977fbee19420dd79f179737d8a45a5b33690474ceb384f3d363fbf1643583"), looks := false }, kinds := [], alts := [], laidByText := true, laidKinds := [.data], laidTests := true, laidLooks := .later }
def FnExactIsLessCardSaid : Prop := Claim7.holds Tryd.pinned (.plain (OpenSpec.ofChange fnExactIsLessSpec)) fnExactIsLessCard

/-- THE TIED CARD OF 'laws.FnExactFloorAndRest'. -/
def fnExactFloorAndRestCard : Claim7 := { stood := { row := fnExactFloorAndRestRow, standIns := [], harness := (true, "143977fbee19420dd79f179737d8a45a5b33690474ceb384f3d363fbf1643583"), looks := false }, kinds := [], alts := [], laidByText := true, laidKinds := [.data], laidTests := true, laidLooks := .later }
def FnExactFloorAndRestCardSaid : Prop := Claim7.holds Tryd.pinned (.plain (OpenSpec.ofChange fnExactFloorAndRestSpec)) fnExactFloorAndRestCard

/-- THE TIED CARD OF 'laws.FnExactFractionHeight'. -/
def fnExactFractionHeightCard : Claim7 := { stood := { row := fnExactFractionHeightRow, standIns := [], harness := (true, "143977fbee19420dd79f179737d8a45a5b33690474ceb384f3d363fbf1643583"), looks := false }, kinds := [], alts := [], laidByText := true, laidKinds := [.data], laidTests := true, laidLooks := .later }
def FnExactFractionHeightCardSaid : Prop := Claim7.holds Tryd.pinned (.plain (OpenSpec.ofChange fnExactFractionHeightSpec)) fnExactFractionHeightCard

/-- THE TIED CARD OF 'laws.FnExactSquareRootOf'. -/
def fnExactSquareRootOfCard : Claim7 := { stood := { row := fnExactSquareRootOfRow, standIns := [], harness := (true, "143977fbee19420dd79f179737d8a45a5b33690474ceb384f3d363fbf1643583"), looks := false }, kinds := [], alts := [], laidByText := true, laidKinds := [.data], laidTests := true, laidLooks := .later }
def FnExactSquareRootOfCardSaid : Prop := Claim7.holds Tryd.pinned (.plain (OpenSpec.ofChange fnExactSquareRootOfSpec)) fnExactSquareRootOfCard

/-- THE TIED CARD OF 'laws.FnExactSimplestIn'. -/
def fnExactSimplestInCard : Claim7 := { stood := { row := fnExactSimplestInRow, standIns := [], harness := (true, "143977fbee19420dd79f179737d8a45a5b33690474ceb384f3d363fbf1643583"), looks := false }, kinds := [], alts := [], laidByText := true, laidKinds := [.data], laidTests := true, laidLooks := .later }
def FnExactSimplestInCardSaid : Prop := Claim7.holds Tryd.pinned (.plain (OpenSpec.ofChange fnExactSimplestInSpec)) fnExactSimplestInCard

/-- THE TIED CARD OF 'laws.FnFractions'. -/
def fnFractionsCard : Claim7 := { stood := { row := fnFractionsRow, standIns := [], harness := (true, "143977fbee19420dd79f179737d8a45a5b33690474ceb384f3d363fbf1643583"), looks := false }, kinds := [], alts := [], laidByText := true, laidKinds := [.data], laidTests := true, laidLooks := .later }
def FnFractionsCardSaid : Prop := Claim7.holds Tryd.pinned (.plain (OpenSpec.ofChange fnFractionsSpec)) fnFractionsCard

/-- THE SECOND FORM's CARD OF 'laws.FnExactIsFraction'. -/
def fnExactIsFractionUptoCard : Claim7 := { stood := { row := fnExactIsFractionUptoRow, standIns := [], harness := (true, "143977fbee19420dd79f179737d8a45a5b33690474ceb384f3d363fbf1643583"), looks := false }, kinds := [], alts := [], laidByText := true, laidKinds := [.data], laidTests := true, laidLooks := .later }
def FnExactIsFractionUptoCardSaid : Prop := Claim7.holds Tryd.pinned (.plain (OpenSpec.upto fnExactIsFractionSpec)) fnExactIsFractionUptoCard

/-- THE SECOND FORM's CARD OF 'laws.FnExactFractionOf'. -/
def fnExactFractionOfUptoCard : Claim7 := { stood := { row := fnExactFractionOfUptoRow, standIns := [], harness := (true, "143977fbee19420dd79f179737d8a45a5b33690474ceb384f3d363fbf1643583"), looks := false }, kinds := [], alts := [], laidByText := true, laidKinds := [.data], laidTests := true, laidLooks := .later }
def FnExactFractionOfUptoCardSaid : Prop := Claim7.holds Tryd.pinned (.plain (OpenSpec.upto fnExactFractionOfSpec)) fnExactFractionOfUptoCard

/-- THE SECOND FORM's CARD OF 'laws.FnExactSumOf'. -/
def fnExactSumOfUptoCard : Claim7 := { stood := { row := fnExactSumOfUptoRow, standIns := [], harness := (true, "143977fbee19420dd79f179737d8a45a5b33690474ceb384f3d363fbf1643583"), looks := false }, kinds := [], alts := [], laidByText := true, laidKinds := [.data], laidTests := true, laidLooks := .later }
def FnExactSumOfUptoCardSaid : Prop := Claim7.holds Tryd.pinned (.plain (OpenSpec.upto fnExactSumOfSpec)) fnExactSumOfUptoCard

/-- THE SECOND FORM's CARD OF 'laws.FnExactDifferenceOf'. -/
def fnExactDifferenceOfUptoCard : Claim7 := { stood := { row := fnExactDifferenceOfUptoRow, standIns := [], harness := (true, "143977fbee19420dd79f179737d8a45a5b33690474ceb384f3d363fbf1643583"), looks := false }, kinds := [], alts := [], laidByText := true, laidKinds := [.data], laidTests := true, laidLooks := .later }
def FnExactDifferenceOfUptoCardSaid : Prop := Claim7.holds Tryd.pinned (.plain (OpenSpec.upto fnExactDifferenceOfSpec)) fnExactDifferenceOfUptoCard

/-- THE SECOND FORM's CARD OF 'laws.FnExactProductOf'. -/
def fnExactProductOfUptoCard : Claim7 := { stood := { row := fnExactProductOfUptoRow, standIns := [], harness := (true, "143977fbee19420dd79f179737d8a45a5b33690474ceb384f3d363fbf1643583"), looks := false }, kinds := [], alts := [], laidByText := true, laidKinds := [.data], laidTests := true, laidLooks := .later }
def FnExactProductOfUptoCardSaid : Prop := Claim7.holds Tryd.pinned (.plain (OpenSpec.upto fnExactProductOfSpec)) fnExactProductOfUptoCard

/-- THE SECOND FORM's CARD OF 'laws.FnExactQuotientOf'. -/
def fnExactQuotientOfUptoCard : Claim7 := { stood := { row := fnExactQuotientOfUptoRow, standIns := [], harness := (true, "143977fbee19420dd79f179737d8a45a5b33690474ceb384f3d363fbf1643583"), looks := false }, kinds := [], alts := [], laidByText := true, laidKinds := [.data], laidTests := true, laidLooks := .later }
def FnExactQuotientOfUptoCardSaid : Prop := Claim7.holds Tryd.pinned (.plain (OpenSpec.upto fnExactQuotientOfSpec)) fnExactQuotientOfUptoCard

/-- THE SECOND FORM's CARD OF 'laws.FnExactIsLess'. -/
def fnExactIsLessUptoCard : Claim7 := { stood := { row := fnExactIsLessUptoRow, standIns := [], harness := (true, "143977fbee19420dd79f179737d8a45a5b33690474ceb384f3d363fbf1643583"), looks := false }, kinds := [], alts := [], laidByText := true, laidKinds := [.data], laidTests := true, laidLooks := .later }
def FnExactIsLessUptoCardSaid : Prop := Claim7.holds Tryd.pinned (.plain (OpenSpec.upto fnExactIsLessSpec)) fnExactIsLessUptoCard

/-- THE SECOND FORM's CARD OF 'laws.FnExactFloorAndRest'. -/
def fnExactFloorAndRestUptoCard : Claim7 := { stood := { row := fnExactFloorAndRestUptoRow, standIns := [], harness := (true, "143977fbee19420dd79f179737d8a45a5b33690474ceb384f3d363fbf1643583"), looks := false }, kinds := [], alts := [], laidByText := true, laidKinds := [.data], laidTests := true, laidLooks := .later }
def FnExactFloorAndRestUptoCardSaid : Prop := Claim7.holds Tryd.pinned (.plain (OpenSpec.upto fnExactFloorAndRestSpec)) fnExactFloorAndRestUptoCard

/-- THE SECOND FORM's CARD OF 'laws.FnExactFractionHeight'. -/
def fnExactFractionHeightUptoCard : Claim7 := { stood := { row := fnExactFractionHeightUptoRow, standIns := [], harness := (true, "143977fbee19420dd79f179737d8a45a5b33690474ceb384f3d363fbf1643583"), looks := false }, kinds := [], alts := [], laidByText := true, laidKinds := [.data], laidTests := true, laidLooks := .later }
def FnExactFractionHeightUptoCardSaid : Prop := Claim7.holds Tryd.pinned (.plain (OpenSpec.upto fnExactFractionHeightSpec)) fnExactFractionHeightUptoCard

/-- THE SECOND FORM's CARD OF 'laws.FnExactSquareRootOf'. -/
def fnExactSquareRootOfUptoCard : Claim7 := { stood := { row := fnExactSquareRootOfUptoRow, standIns := [], harness := (true, "143977fbee19420dd79f179737d8a45a5b33690474ceb384f3d363fbf1643583"), looks := false }, kinds := [], alts := [], laidByText := true, laidKinds := [.data], laidTests := true, laidLooks := .later }
def FnExactSquareRootOfUptoCardSaid : Prop := Claim7.holds Tryd.pinned (.plain (OpenSpec.upto fnExactSquareRootOfSpec)) fnExactSquareRootOfUptoCard

/-- THE SECOND FORM's CARD OF 'laws.FnExactSimplestIn'. -/
def fnExactSimplestInUptoCard : Claim7 := { stood := { row := fnExactSimplestInUptoRow, standIns := [], harness := (true, "143977fbee19420dd79f179737d8a45a5b33690474ceb384f3d363fbf1643583"), looks := false }, kinds := [], alts := [], laidByText := true, laidKinds := [.data], laidTests := true, laidLooks := .later }
def FnExactSimplestInUptoCardSaid : Prop := Claim7.holds Tryd.pinned (.plain (OpenSpec.upto fnExactSimplestInSpec)) fnExactSimplestInUptoCard

/-- THE SECOND FORM's CARD OF 'laws.FnFractions'. -/
def fnFractionsUptoCard : Claim7 := { stood := { row := fnFractionsUptoRow, standIns := [], harness := (true, "143977fbee19420dd79f179737d8a45a5b33690474ceb384f3d363fbf1643583"), looks := false }, kinds := [], alts := [], laidByText := true, laidKinds := [.data], laidTests := true, laidLooks := .later }
def FnFractionsUptoCardSaid : Prop := Claim7.holds Tryd.pinned (.plain (OpenSpec.upto fnFractionsSpec)) fnFractionsUptoCard
end Rows
end Go.Proofs.YteolfmhihnpjpaaDoor
