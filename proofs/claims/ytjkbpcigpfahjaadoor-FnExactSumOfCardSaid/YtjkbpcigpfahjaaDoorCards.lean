/-
  DERIVED. GIVEN WITH THE SEED: THE CARDS: each row of YtjkbpcigpfahjaaDoorRows.lean that lists a variable, with what it lists TIED to the program's text (the seventh form; the later family's looks); each row that meets fmt, with fmt's text TOLD by the authors' own Lean function (tested against real Go, not proved from fmt's source: count such statements apart). THE CARD IS WHAT COUNTS. Prove the row's statement (the work); the ties are given (YtjkbpcigpfahjaaDoorTie.lean); close each card by the builder's one call (the guide's Derived/Test/ToyasCard.lean, 'card_holds'). Laid BY PROGRAM, IN A SANDBOX (cutbox-door.mjs). By AI agents, Wed Nov 11 2026. No macro, syntax, notation, axiom, sorry.
-/
import Derived.Test.YtjkbpcigpfahjaaDoorRows
import GoSem.ClaimSeven
namespace Go.Proofs.YtjkbpcigpfahjaaDoor
namespace Rows

/-- THE TIED CARD OF 'laws.FnExactFractionOf'. -/
def fnExactFractionOfCard : Claim7 := { stood := { row := fnExactFractionOfRow, standIns := [], harness := (true, "913739203a86cf6ab1ef69190dbf3cf618687ad7ea67b19e4e63f163fd07510e"), looks := false }, kinds := [], alts := [], laidByText := true, laidKinds := [.data], laidTests := true, laidLooks := .later }
def FnExactFractionOfCardSaid : Prop := Claim7.holds Tryd.pinned (.plain (OpenSpec.ofChange fnExactFractionOfSpec)) fnExactFractionOfCard

/-- THE TIED CARD OF 'laws.FnExactSumOf'. -/
def fnExactSumOfCard : Claim7 := { stood := { row := fnExactSumOfRow, standIns := [], harness := (true, "913739203a86cf6ab1ef69190dbf3cf618687ad7ea67b19e4e63f163fd07510e"), looks := false }, kinds := [], alts := [], laidByText := true, laidKinds := [.data], laidTests := true, laidLooks := .later }
def FnExactSumOfCardSaid : Prop := Claim7.holds Tryd.pinned (.plain (OpenSpec.ofChange fnExactSumOfSpec)) fnExactSumOfCard

/-- THE TIED CARD OF 'laws.FnExactDifferenceOf'. -/
def fnExactDifferenceOfCard : Claim7 := { stood := { row := fnExactDifferenceOfRow, standIns := [], harness := (true, "913739203a86cf6ab1ef69190dbf3cf618687ad7ea67b19e4e63f163fd07510e"), looks := false }, kinds := [], alts := [], laidByText := true, laidKinds := [.data], laidTests := true, laidLooks := .later }
def FnExactDifferenceOfCardSaid : Prop := Claim7.holds Tryd.pinned (.plain (OpenSpec.ofChange fnExactDifferenceOfSpec)) fnExactDifferenceOfCard

/-- THE TIED CARD OF 'laws.FnExactProductOf'. -/
def fnExactProductOfCard : Claim7 := { stood := { row := fnExactProductOfRow, standIns := [], harness := (true, "913739203a86cf6ab1ef69190dbf3cf618687ad7ea67b19e4e63f163fd07510e"), looks := false }, kinds := [], alts := [], laidByText := true, laidKinds := [.data], laidTests := true, laidLooks := .later }
def FnExactProductOfCardSaid : Prop := Claim7.holds Tryd.pinned (.plain (OpenSpec.ofChange fnExactProductOfSpec)) fnExactProductOfCard

/-- THE TIED CARD OF 'laws.FnExactQuotientOf'. -/
def fnExactQuotientOfCard : Claim7 := { stood := { row := fnExactQuotientOfRow, standIns := [], harness := (true, "913739203a86cf6ab1ef69190dbf3cf618687ad7ea67b19e4e63f163fd07510e"), looks := false }, kinds := [], alts := [], laidByText := true, laidKinds := [.data], laidTests := true, laidLooks := .later }
def FnExactQuotientOfCardSaid : Prop := Claim7.holds Tryd.pinned (.plain (OpenSpec.ofChange fnExactQuotientOfSpec)) fnExactQuotientOfCard

/-- THE TIED CARD OF 'laws.FnExactSquareRootOf'. -/
def fnExactSquareRootOfCard : Claim7 := { stood := { row := fnExactSquareRootOfRow, standIns := [], harness := (true, "913739203a86cf6ab1ef69190dbf3cf618687ad7ea67b19e4e63f163fd07510e"), looks := false }, kinds := [], alts := [], laidByText := true, laidKinds := [.data], laidTests := true, laidLooks := .later }
def FnExactSquareRootOfCardSaid : Prop := Claim7.holds Tryd.pinned (.plain (OpenSpec.ofChange fnExactSquareRootOfSpec)) fnExactSquareRootOfCard

/-- THE SECOND FORM's CARD OF 'laws.FnExactFractionOf'. -/
def fnExactFractionOfUptoCard : Claim7 := { stood := { row := fnExactFractionOfUptoRow, standIns := [], harness := (true, "913739203a86cf6ab1ef69190dbf3cf618687ad7ea67b19e4e63f163fd07510e"), looks := false }, kinds := [], alts := [], laidByText := true, laidKinds := [.data], laidTests := true, laidLooks := .later }
def FnExactFractionOfUptoCardSaid : Prop := Claim7.holds Tryd.pinned (.plain (OpenSpec.upto fnExactFractionOfSpec)) fnExactFractionOfUptoCard

/-- THE SECOND FORM's CARD OF 'laws.FnExactSumOf'. -/
def fnExactSumOfUptoCard : Claim7 := { stood := { row := fnExactSumOfUptoRow, standIns := [], harness := (true, "913739203a86cf6ab1ef69190dbf3cf618687ad7ea67b19e4e63f163fd07510e"), looks := false }, kinds := [], alts := [], laidByText := true, laidKinds := [.data], laidTests := true, laidLooks := .later }
def FnExactSumOfUptoCardSaid : Prop := Claim7.holds Tryd.pinned (.plain (OpenSpec.upto fnExactSumOfSpec)) fnExactSumOfUptoCard

/-- THE SECOND FORM's CARD OF 'laws.FnExactDifferenceOf'. -/
def fnExactDifferenceOfUptoCard : Claim7 := { stood := { row := fnExactDifferenceOfUptoRow, standIns := [], harness := (true, "913739203a86cf6ab1ef69190dbf3cf618687ad7ea67b19e4e63f163fd07510e"), looks := false }, kinds := [], alts := [], laidByText := true, laidKinds := [.data], laidTests := true, laidLooks := .later }
def FnExactDifferenceOfUptoCardSaid : Prop := Claim7.holds Tryd.pinned (.plain (OpenSpec.upto fnExactDifferenceOfSpec)) fnExactDifferenceOfUptoCard

/-- THE SECOND FORM's CARD OF 'laws.FnExactProductOf'. -/
def fnExactProductOfUptoCard : Claim7 := { stood := { row := fnExactProductOfUptoRow, standIns := [], harness := (true, "913739203a86cf6ab1ef69190dbf3cf618687ad7ea67b19e4e63f163fd07510e"), looks := false }, kinds := [], alts := [], laidByText := true, laidKinds := [.data], laidTests := true, laidLooks := .later }
def FnExactProductOfUptoCardSaid : Prop := Claim7.holds Tryd.pinned (.plain (OpenSpec.upto fnExactProductOfSpec)) fnExactProductOfUptoCard

/-- THE SECOND FORM's CARD OF 'laws.FnExactQuotientOf'. -/
def fnExactQuotientOfUptoCard : Claim7 := { stood := { row := fnExactQuotientOfUptoRow, standIns := [], harness := (true, "913739203a86cf6ab1ef69190dbf3cf618687ad7ea67b19e4e63f163fd07510e"), looks := false }, kinds := [], alts := [], laidByText := true, laidKinds := [.data], laidTests := true, laidLooks := .later }
def FnExactQuotientOfUptoCardSaid : Prop := Claim7.holds Tryd.pinned (.plain (OpenSpec.upto fnExactQuotientOfSpec)) fnExactQuotientOfUptoCard

/-- THE SECOND FORM's CARD OF 'laws.FnExactSquareRootOf'. -/
def fnExactSquareRootOfUptoCard : Claim7 := { stood := { row := fnExactSquareRootOfUptoRow, standIns := [], harness := (true, "913739203a86cf6ab1ef69190dbf3cf618687ad7ea67b19e4e63f163fd07510e"), looks := false }, kinds := [], alts := [], laidByText := true, laidKinds := [.data], laidTests := true, laidLooks := .later }
def FnExactSquareRootOfUptoCardSaid : Prop := Claim7.holds Tryd.pinned (.plain (OpenSpec.upto fnExactSquareRootOfSpec)) fnExactSquareRootOfUptoCard
end Rows
end Go.Proofs.YtjkbpcigpfahjaaDoor
