/-
  DERIVED. GIVEN WITH THE SEED: THE CARDS: each row of YtjamckcbgcejdaaDoorRows.lean that lists a variable, with what it lists TIED to the program's text (the seventh form; the later family's looks); each row that meets fmt, with fmt's text TOLD by the authors' own Lean function (tested against real Go, not proved from fmt's source: count such statements apart). THE CARD IS WHAT COUNTS. Prove the row's statement (the work); the ties are given (YtjamckcbgcejdaaDoorTie.lean); close each card by the builder's one call (the guide's Derived/Test/ToyasCard.lean, 'card_holds'). Laid BY PROGRAM, IN A SANDBOX (cutbox-door.mjs). By AI agents, Wed Nov 11 2026. No macro, syntax, notation, axiom, sorry.
-/
import Derived.Test.YtjamckcbgcejdaaDoorRows
import GoSem.ClaimSeven
namespace Go.Proofs.YtjamckcbgcejdaaDoor
namespace Rows

/-- THE TIED CARD OF 'laws.FnExactCubicAtFraction'. -/
def fnExactCubicAtFractionCard : Claim7 := { stood := { row := fnExactCubicAtFractionRow, standIns := [], harness := (true, "f7f2d284520c823070f9c18dc4ed83b05fb108b6338b9021cdfe436770193a26"), looks := false }, kinds := [], alts := [], laidByText := true, laidKinds := [.data], laidTests := true, laidLooks := .later }
def FnExactCubicAtFractionCardSaid : Prop := Claim7.holds Tryd.pinned (.plain (OpenSpec.ofChange fnExactCubicAtFractionSpec)) fnExactCubicAtFractionCard

/-- THE TIED CARD OF 'laws.FnExactRationalRoots'. -/
def fnExactRationalRootsCard : Claim7 := { stood := { row := fnExactRationalRootsRow, standIns := [], harness := (true, "f7f2d284520c823070f9c18dc4ed83b05fb108b6338b9021cdfe436770193a26"), looks := false }, kinds := [], alts := [], laidByText := true, laidKinds := [.data], laidTests := true, laidLooks := .later }
def FnExactRationalRootsCardSaid : Prop := Claim7.holds Tryd.pinned (.plain (OpenSpec.ofChange fnExactRationalRootsSpec)) fnExactRationalRootsCard

/-- THE TIED CARD OF 'laws.FnExactFactorOut'. -/
def fnExactFactorOutCard : Claim7 := { stood := { row := fnExactFactorOutRow, standIns := [], harness := (true, "f7f2d284520c823070f9c18dc4ed83b05fb108b6338b9021cdfe436770193a26"), looks := false }, kinds := [], alts := [], laidByText := true, laidKinds := [.data], laidTests := true, laidLooks := .later }
def FnExactFactorOutCardSaid : Prop := Claim7.holds Tryd.pinned (.plain (OpenSpec.ofChange fnExactFactorOutSpec)) fnExactFactorOutCard

/-- THE TIED CARD OF 'laws.FnExactIsIrreducibleCubic'. -/
def fnExactIsIrreducibleCubicCard : Claim7 := { stood := { row := fnExactIsIrreducibleCubicRow, standIns := [], harness := (true, "f7f2d284520c823070f9c18dc4ed83b05fb108b6338b9021cdfe436770193a26"), looks := false }, kinds := [], alts := [], laidByText := true, laidKinds := [.data], laidTests := true, laidLooks := .later }
def FnExactIsIrreducibleCubicCardSaid : Prop := Claim7.holds Tryd.pinned (.plain (OpenSpec.ofChange fnExactIsIrreducibleCubicSpec)) fnExactIsIrreducibleCubicCard

/-- THE TIED CARD OF 'laws.FnExactCubicText'. -/
def fnExactCubicTextCard : Claim7 := { stood := { row := fnExactCubicTextRow, standIns := [], harness := (true, "f7f2d284520c823070f9c18dc4ed83b05fb108b6338b9021cdfe436770193a26"), looks := false }, kinds := [], alts := [], laidByText := true, laidKinds := [.data, .data, .data], laidTests := true, laidLooks := .later }
def FnExactCubicTextCardSaid : Prop := Claim7.holds Tryd.pinned (.plain (OpenSpec.ofChange fnExactCubicTextSpec)) fnExactCubicTextCard

/-- THE SECOND FORM's CARD OF 'laws.FnExactCubicAtFraction'. -/
def fnExactCubicAtFractionUptoCard : Claim7 := { stood := { row := fnExactCubicAtFractionUptoRow, standIns := [], harness := (true, "f7f2d284520c823070f9c18dc4ed83b05fb108b6338b9021cdfe436770193a26"), looks := false }, kinds := [], alts := [], laidByText := true, laidKinds := [.data], laidTests := true, laidLooks := .later }
def FnExactCubicAtFractionUptoCardSaid : Prop := Claim7.holds Tryd.pinned (.plain (OpenSpec.upto fnExactCubicAtFractionSpec)) fnExactCubicAtFractionUptoCard

/-- THE SECOND FORM's CARD OF 'laws.FnExactRationalRoots'. -/
def fnExactRationalRootsUptoCard : Claim7 := { stood := { row := fnExactRationalRootsUptoRow, standIns := [], harness := (true, "f7f2d284520c823070f9c18dc4ed83b05fb108b6338b9021cdfe436770193a26"), looks := false }, kinds := [], alts := [], laidByText := true, laidKinds := [.data], laidTests := true, laidLooks := .later }
def FnExactRationalRootsUptoCardSaid : Prop := Claim7.holds Tryd.pinned (.plain (OpenSpec.upto fnExactRationalRootsSpec)) fnExactRationalRootsUptoCard

/-- THE SECOND FORM's CARD OF 'laws.FnExactFactorOut'. -/
def fnExactFactorOutUptoCard : Claim7 := { stood := { row := fnExactFactorOutUptoRow, standIns := [], harness := (true, "f7f2d284520c823070f9c18dc4ed83b05fb108b6338b9021cdfe436770193a26"), looks := false }, kinds := [], alts := [], laidByText := true, laidKinds := [.data], laidTests := true, laidLooks := .later }
def FnExactFactorOutUptoCardSaid : Prop := Claim7.holds Tryd.pinned (.plain (OpenSpec.upto fnExactFactorOutSpec)) fnExactFactorOutUptoCard

/-- THE SECOND FORM's CARD OF 'laws.FnExactIsIrreducibleCubic'. -/
def fnExactIsIrreducibleCubicUptoCard : Claim7 := { stood := { row := fnExactIsIrreducibleCubicUptoRow, standIns := [], harness := (true, "f7f2d284520c823070f9c18dc4ed83b05fb108b6338b9021cdfe436770193a26"), looks := false }, kinds := [], alts := [], laidByText := true, laidKinds := [.data], laidTests := true, laidLooks := .later }
def FnExactIsIrreducibleCubicUptoCardSaid : Prop := Claim7.holds Tryd.pinned (.plain (OpenSpec.upto fnExactIsIrreducibleCubicSpec)) fnExactIsIrreducibleCubicUptoCard

/-- THE SECOND FORM's CARD OF 'laws.FnExactCubicText'. -/
def fnExactCubicTextUptoCard : Claim7 := { stood := { row := fnExactCubicTextUptoRow, standIns := [], harness := (true, "f7f2d284520c823070f9c18dc4ed83b05fb108b6338b9021cdfe436770193a26"), looks := false }, kinds := [], alts := [], laidByText := true, laidKinds := [.data, .data, .data], laidTests := true, laidLooks := .later }
def FnExactCubicTextUptoCardSaid : Prop := Claim7.holds Tryd.pinned (.plain (OpenSpec.upto fnExactCubicTextSpec)) fnExactCubicTextUptoCard
end Rows
end Go.Proofs.YtjamckcbgcejdaaDoor
