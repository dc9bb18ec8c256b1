/-
  No cell of these rows narrows 'for every input' (looked for: loops, veiled, ifaces, maps, wideKeys, modest, calm, conditions, laid).
  DERIVED. THE GIVEN ROWS OF THIS SEAT. 10 by the template 'for every input the law returns true; each argument reads behind the call as it read before'; 0 by the template 'total and deterministic' (their statements: YtmknmjkcnlennaaTotals.lean).
  GIVEN WITH THE SEED: the statements are not yours to turn. If you find one false, say at which input.
  Laid BY PROGRAM, IN A SANDBOX (cutbox-rows.mjs): the forced cells as the released guide's own fill.sh prints them over the translation ce7080226779f6fe… (all of the seat's roots in one cut). By AI agents, Wed Nov 11 2026. No macro, syntax, notation, axiom, sorry.
-/
import Derived.Test.YtmknmjkcnlennaaChecked
import GoSem.Claim
import GoSem.ClaimJoined
import GoSem.ClaimMapViews
import Derived.JoinedTies
import Derived.KernelRfl
namespace Go.Proofs.Ytmknmjkcnlennaa
/- THE CELL 'sum', in the pinned program and in every row, IS THE sha256 OF THE DUMP (.gsa) THAT YtmknmjkcnlennaaProg.lean LOADS. Nothing in Lean hashes anything: it is a label: what it is worth is what the hold of that sum in a sandbox is worth. -/
noncomputable def Try.pinned : Pinned := { name := "ytmknmjkcnlennaa", sum := "ce7080226779f6fe95446c20e64d50de7a222e16f88e60799ade247e2867ab1e", checked := Try.checked }
namespace Rows
def none {H : Type} : Left H := { results := [], args := [] }

/-- 'laws.FnExactIsCurve': WHATEVER THE INPUT: true; the input reads as it did. -/
def fnExactIsCurveSpec : ChangeSpec := { name := "fnExactIsCurve", fn := fun _ => fun
  | [d] => { results := [.lit (.bool true)], args := [d] }
  | _ => none }
def fnExactIsCurveRow : OpenClaim := { program := "ytmknmjkcnlennaa", sum := "ce7080226779f6fe95446c20e64d50de7a222e16f88e60799ade247e2867ab1e", func := "loop.example/g01004/laws.FnExactIsCurve", spec := "fnExactIsCurve", unfollowed := true, recurses := true, apart := false }
def FnExactIsCurveSaid : Prop := fnExactIsCurveRow.holds Try.pinned (OpenSpec.ofChange fnExactIsCurveSpec)

/-- ITS FALSE NEIGHBOUR: 'it returns false'. Refute it at one input. -/
def fnExactIsCurveWrong : ChangeSpec := { name := "fnExactIsCurve", fn := fun _ => fun
  | [d] => { results := [.lit (.bool false)], args := [d] }
  | _ => none }
def FnExactIsCurveWrongFalsely : Prop := fnExactIsCurveRow.holds Try.pinned (OpenSpec.ofChange fnExactIsCurveWrong)

/-- 'laws.FnExactDiscriminantOf': WHATEVER THE INPUT: true; the input reads as it did. -/
def fnExactDiscriminantOfSpec : ChangeSpec := { name := "fnExactDiscriminantOf", fn := fun _ => fun
  | [d] => { results := [.lit (.bool true)], args := [d] }
  | _ => none }
def fnExactDiscriminantOfRow : OpenClaim := { program := "ytmknmjkcnlennaa", sum := "ce7080226779f6fe95446c20e64d50de7a222e16f88e60799ade247e2867ab1e", func := "loop.example/g01004/laws.FnExactDiscriminantOf", spec := "fnExactDiscriminantOf", unfollowed := true, recurses := true, apart := false }
def FnExactDiscriminantOfSaid : Prop := fnExactDiscriminantOfRow.holds Try.pinned (OpenSpec.ofChange fnExactDiscriminantOfSpec)

/-- ITS FALSE NEIGHBOUR: 'it returns false'. Refute it at one input. -/
def fnExactDiscriminantOfWrong : ChangeSpec := { name := "fnExactDiscriminantOf", fn := fun _ => fun
  | [d] => { results := [.lit (.bool false)], args := [d] }
  | _ => none }
def FnExactDiscriminantOfWrongFalsely : Prop := fnExactDiscriminantOfRow.holds Try.pinned (OpenSpec.ofChange fnExactDiscriminantOfWrong)

/-- 'laws.FnExactInvariantOf': WHATEVER THE INPUT: true; the input reads as it did. -/
def fnExactInvariantOfSpec : ChangeSpec := { name := "fnExactInvariantOf", fn := fun _ => fun
  | [d] => { results := [.lit (.bool true)], args := [d] }
  | _ => none }
def fnExactInvariantOfRow : OpenClaim := { program := "ytmknmjkcnlennaa", sum := "ce7080226779f6fe95446c20e64d50de7a222e16f88e60799ade247e2867ab1e", func := "loop.example/g01004/laws.FnExactInvariantOf", spec := "fnExactInvariantOf", unfollowed := true, recurses := true, apart := false }
def FnExactInvariantOfSaid : Prop := fnExactInvariantOfRow.holds Try.pinned (OpenSpec.ofChange fnExactInvariantOfSpec)

/-- ITS FALSE NEIGHBOUR: 'it returns false'. Refute it at one input. -/
def fnExactInvariantOfWrong : ChangeSpec := { name := "fnExactInvariantOf", fn := fun _ => fun
  | [d] => { results := [.lit (.bool false)], args := [d] }
  | _ => none }
def FnExactInvariantOfWrongFalsely : Prop := fnExactInvariantOfRow.holds Try.pinned (OpenSpec.ofChange fnExactInvariantOfWrong)

/-- 'laws.FnExactScaleCurve': WHATEVER THE INPUT: true; the input reads as it did. -/
def fnExactScaleCurveSpec : ChangeSpec := { name := "fnExactScaleCurve", fn := fun _ => fun
  | [d1, d2] => { results := [.lit (.bool true)], args := [d1, d2] }
  | _ => none }
def fnExactScaleCurveRow : OpenClaim := { program := "ytmknmjkcnlennaa", sum := "ce7080226779f6fe95446c20e64d50de7a222e16f88e60799ade247e2867ab1e", func := "loop.example/g01004/laws.FnExactScaleCurve", spec := "fnExactScaleCurve", unfollowed := true, recurses := true, apart := false }
def FnExactScaleCurveSaid : Prop := fnExactScaleCurveRow.holds Try.pinned (OpenSpec.ofChange fnExactScaleCurveSpec)

/-- ITS FALSE NEIGHBOUR: 'it returns false'. Refute it at one input. -/
def fnExactScaleCurveWrong : ChangeSpec := { name := "fnExactScaleCurve", fn := fun _ => fun
  | [d1, d2] => { results := [.lit (.bool false)], args := [d1, d2] }
  | _ => none }
def FnExactScaleCurveWrongFalsely : Prop := fnExactScaleCurveRow.holds Try.pinned (OpenSpec.ofChange fnExactScaleCurveWrong)

/-- 'laws.FnExactSmallestModel': WHATEVER THE INPUT: true; the input reads as it did. -/
def fnExactSmallestModelSpec : ChangeSpec := { name := "fnExactSmallestModel", fn := fun _ => fun
  | [d] => { results := [.lit (.bool true)], args := [d] }
  | _ => none }
def fnExactSmallestModelRow : OpenClaim := { program := "ytmknmjkcnlennaa", sum := "ce7080226779f6fe95446c20e64d50de7a222e16f88e60799ade247e2867ab1e", func := "loop.example/g01004/laws.FnExactSmallestModel", spec := "fnExactSmallestModel", unfollowed := true, recurses := true, apart := false }
def FnExactSmallestModelSaid : Prop := fnExactSmallestModelRow.holds Try.pinned (OpenSpec.ofChange fnExactSmallestModelSpec)

/-- ITS FALSE NEIGHBOUR: 'it returns false'. Refute it at one input. -/
def fnExactSmallestModelWrong : ChangeSpec := { name := "fnExactSmallestModel", fn := fun _ => fun
  | [d] => { results := [.lit (.bool false)], args := [d] }
  | _ => none }
def FnExactSmallestModelWrongFalsely : Prop := fnExactSmallestModelRow.holds Try.pinned (OpenSpec.ofChange fnExactSmallestModelWrong)

/-- 'laws.FnExactAreIsomorphic': WHATEVER THE INPUT: true; the input reads as it did. -/
def fnExactAreIsomorphicSpec : ChangeSpec := { name := "fnExactAreIsomorphic", fn := fun _ => fun
  | [d1, d2] => { results := [.lit (.bool true)], args := [d1, d2] }
  | _ => none }
def fnExactAreIsomorphicRow : OpenClaim := { program := "ytmknmjkcnlennaa", sum := "ce7080226779f6fe95446c20e64d50de7a222e16f88e60799ade247e2867ab1e", func := "loop.example/g01004/laws.FnExactAreIsomorphic", spec := "fnExactAreIsomorphic", unfollowed := true, recurses := true, apart := false }
def FnExactAreIsomorphicSaid : Prop := fnExactAreIsomorphicRow.holds Try.pinned (OpenSpec.ofChange fnExactAreIsomorphicSpec)

/-- ITS FALSE NEIGHBOUR: 'it returns false'. Refute it at one input. -/
def fnExactAreIsomorphicWrong : ChangeSpec := { name := "fnExactAreIsomorphic", fn := fun _ => fun
  | [d1, d2] => { results := [.lit (.bool false)], args := [d1, d2] }
  | _ => none }
def FnExactAreIsomorphicWrongFalsely : Prop := fnExactAreIsomorphicRow.holds Try.pinned (OpenSpec.ofChange fnExactAreIsomorphicWrong)

/-- 'laws.FnExactIsIntegerPoint': WHATEVER THE INPUT: true; the input reads as it did. -/
def fnExactIsIntegerPointSpec : ChangeSpec := { name := "fnExactIsIntegerPoint", fn := fun _ => fun
  | [d1, d2, d3] => { results := [.lit (.bool true)], args := [d1, d2, d3] }
  | _ => none }
def fnExactIsIntegerPointRow : OpenClaim := { program := "ytmknmjkcnlennaa", sum := "ce7080226779f6fe95446c20e64d50de7a222e16f88e60799ade247e2867ab1e", func := "loop.example/g01004/laws.FnExactIsIntegerPoint", spec := "fnExactIsIntegerPoint", unfollowed := true, recurses := true, apart := false }
def FnExactIsIntegerPointSaid : Prop := fnExactIsIntegerPointRow.holds Try.pinned (OpenSpec.ofChange fnExactIsIntegerPointSpec)

/-- ITS FALSE NEIGHBOUR: 'it returns false'. Refute it at one input. -/
def fnExactIsIntegerPointWrong : ChangeSpec := { name := "fnExactIsIntegerPoint", fn := fun _ => fun
  | [d1, d2, d3] => { results := [.lit (.bool false)], args := [d1, d2, d3] }
  | _ => none }
def FnExactIsIntegerPointWrongFalsely : Prop := fnExactIsIntegerPointRow.holds Try.pinned (OpenSpec.ofChange fnExactIsIntegerPointWrong)

/-- 'laws.FnExactOrderTwoAt': WHATEVER THE INPUT: true; the input reads as it did. -/
def fnExactOrderTwoAtSpec : ChangeSpec := { name := "fnExactOrderTwoAt", fn := fun _ => fun
  | [d] => { results := [.lit (.bool true)], args := [d] }
  | _ => none }
def fnExactOrderTwoAtRow : OpenClaim := { program := "ytmknmjkcnlennaa", sum := "ce7080226779f6fe95446c20e64d50de7a222e16f88e60799ade247e2867ab1e", func := "loop.example/g01004/laws.FnExactOrderTwoAt", spec := "fnExactOrderTwoAt", unfollowed := true, recurses := true, apart := false }
def FnExactOrderTwoAtSaid : Prop := fnExactOrderTwoAtRow.holds Try.pinned (OpenSpec.ofChange fnExactOrderTwoAtSpec)

/-- ITS FALSE NEIGHBOUR: 'it returns false'. Refute it at one input. -/
def fnExactOrderTwoAtWrong : ChangeSpec := { name := "fnExactOrderTwoAt", fn := fun _ => fun
  | [d] => { results := [.lit (.bool false)], args := [d] }
  | _ => none }
def FnExactOrderTwoAtWrongFalsely : Prop := fnExactOrderTwoAtRow.holds Try.pinned (OpenSpec.ofChange fnExactOrderTwoAtWrong)

/-- 'laws.FnExactRealParts': WHATEVER THE INPUT: true; the input reads as it did. -/
def fnExactRealPartsSpec : ChangeSpec := { name := "fnExactRealParts", fn := fun _ => fun
  | [d] => { results := [.lit (.bool true)], args := [d] }
  | _ => none }
def fnExactRealPartsRow : OpenClaim := { program := "ytmknmjkcnlennaa", sum := "ce7080226779f6fe95446c20e64d50de7a222e16f88e60799ade247e2867ab1e", func := "loop.example/g01004/laws.FnExactRealParts", spec := "fnExactRealParts", unfollowed := true, recurses := true, apart := false }
def FnExactRealPartsSaid : Prop := fnExactRealPartsRow.holds Try.pinned (OpenSpec.ofChange fnExactRealPartsSpec)

/-- ITS FALSE NEIGHBOUR: 'it returns false'. Refute it at one input. -/
def fnExactRealPartsWrong : ChangeSpec := { name := "fnExactRealParts", fn := fun _ => fun
  | [d] => { results := [.lit (.bool false)], args := [d] }
  | _ => none }
def FnExactRealPartsWrongFalsely : Prop := fnExactRealPartsRow.holds Try.pinned (OpenSpec.ofChange fnExactRealPartsWrong)

/-- 'laws.FnExactBadPrimes': WHATEVER THE INPUT: true; the input reads as it did. -/
def fnExactBadPrimesSpec : ChangeSpec := { name := "fnExactBadPrimes", fn := fun _ => fun
  | [d] => { results := [.lit (.bool true)], args := [d] }
  | _ => none }
def fnExactBadPrimesRow : OpenClaim := { program := "ytmknmjkcnlennaa", sum := "ce7080226779f6fe95446c20e64d50de7a222e16f88e60799ade247e2867ab1e", func := "loop.example/g01004/laws.FnExactBadPrimes", spec := "fnExactBadPrimes", unfollowed := true, recurses := true, apart := false }
def FnExactBadPrimesSaid : Prop := fnExactBadPrimesRow.holds Try.pinned (OpenSpec.ofChange fnExactBadPrimesSpec)

/-- ITS FALSE NEIGHBOUR: 'it returns false'. Refute it at one input. -/
def fnExactBadPrimesWrong : ChangeSpec := { name := "fnExactBadPrimes", fn := fun _ => fun
  | [d] => { results := [.lit (.bool false)], args := [d] }
  | _ => none }
def FnExactBadPrimesWrongFalsely : Prop := fnExactBadPrimesRow.holds Try.pinned (OpenSpec.ofChange fnExactBadPrimesWrong)

/- THE SECOND FORM. 'bulk': how many values and letters a reading holds, each counted each time it is reached (what is shared counts as often as it is met; a slice's spare places count too). A statement '..UptoSaid' is the law's where the arguments, and the package variables that the reading takes, are together of bulk at most 1048576: NARROWER than '..Said'. Prove '..Said' where nothing that the law and all that it calls make is longer than what came in: it says more and counts as full. Else prove '..UptoSaid'. A law counts once. -/
mutual
def uptoBulk {H : Type} : DataW H → Nat
  | .lit (.string bytes) => bytes.length + 1
  | .lit _ => 1
  | .nil => 1
  | .ptr d => uptoBulk d + 1
  | .slice elems spare => uptoBulkAll elems + uptoBulkAll spare + 1
  | .agg parts => uptoBulkAll parts + 1
  | .iface _ d => uptoBulk d + 1
  | .map entries => uptoBulkEntries entries + 1
  | .held _ => 1
def uptoBulkAll {H : Type} : List (DataW H) → Nat
  | [] => 0
  | d :: r => uptoBulk d + uptoBulkAll r
def uptoBulkEntries {H : Type} : List (Lit × DataW H) → Nat
  | [] => 0
  | x :: r => uptoBulkEntry x + uptoBulkEntries r
def uptoBulkEntry {H : Type} : Lit × DataW H → Nat
  | (.string bytes, d) => bytes.length + uptoBulk d + 1
  | (_, d) => uptoBulk d + 1
 end
def uptoSmall : (H : Type) → List (DataW H) → Bool := fun _ ds => decide (uptoBulkAll ds ≤ 1048576)
def OpenSpec.upto (s : _root_.Go.ChangeSpec) : _root_.Go.OpenSpec := { _root_.Go.OpenSpec.ofChange s with cond := some uptoSmall }

/-- 'laws.FnExactIsCurve', WHERE WHAT IT READS IS OF BULK AT MOST 1048576: true; the input reads as it did. -/
def fnExactIsCurveUptoRow : OpenClaim := { program := "ytmknmjkcnlennaa", sum := "ce7080226779f6fe95446c20e64d50de7a222e16f88e60799ade247e2867ab1e", func := "loop.example/g01004/laws.FnExactIsCurve", spec := "fnExactIsCurve", unfollowed := true, recurses := true, apart := false, narrowed := true }
def FnExactIsCurveUptoSaid : Prop := fnExactIsCurveUptoRow.holds Try.pinned (OpenSpec.upto fnExactIsCurveSpec)

/-- 'laws.FnExactDiscriminantOf', WHERE WHAT IT READS IS OF BULK AT MOST 1048576: true; the input reads as it did. -/
def fnExactDiscriminantOfUptoRow : OpenClaim := { program := "ytmknmjkcnlennaa", sum := "ce7080226779f6fe95446c20e64d50de7a222e16f88e60799ade247e2867ab1e", func := "loop.example/g01004/laws.FnExactDiscriminantOf", spec := "fnExactDiscriminantOf", unfollowed := true, recurses := true, apart := false, narrowed := true }
def FnExactDiscriminantOfUptoSaid : Prop := fnExactDiscriminantOfUptoRow.holds Try.pinned (OpenSpec.upto fnExactDiscriminantOfSpec)

/-- 'laws.FnExactInvariantOf', WHERE WHAT IT READS IS OF BULK AT MOST 1048576: true; the input reads as it did. -/
def fnExactInvariantOfUptoRow : OpenClaim := { program := "ytmknmjkcnlennaa", sum := "ce7080226779f6fe95446c20e64d50de7a222e16f88e60799ade247e2867ab1e", func := "loop.example/g01004/laws.FnExactInvariantOf", spec := "fnExactInvariantOf", unfollowed := true, recurses := true, apart := false, narrowed := true }
def FnExactInvariantOfUptoSaid : Prop := fnExactInvariantOfUptoRow.holds Try.pinned (OpenSpec.upto fnExactInvariantOfSpec)

/-- 'laws.FnExactScaleCurve', WHERE WHAT IT READS IS OF BULK AT MOST 1048576: true; the input reads as it did. -/
def fnExactScaleCurveUptoRow : OpenClaim := { program := "ytmknmjkcnlennaa", sum := "ce7080226779f6fe95446c20e64d50de7a222e16f88e60799ade247e2867ab1e", func := "loop.example/g01004/laws.FnExactScaleCurve", spec := "fnExactScaleCurve", unfollowed := true, recurses := true, apart := false, narrowed := true }
def FnExactScaleCurveUptoSaid : Prop := fnExactScaleCurveUptoRow.holds Try.pinned (OpenSpec.upto fnExactScaleCurveSpec)

/-- 'laws.FnExactSmallestModel', WHERE WHAT IT READS IS OF BULK AT MOST 1048576: true; the input reads as it did. -/
def fnExactSmallestModelUptoRow : OpenClaim := { program := "ytmknmjkcnlennaa", sum := "ce7080226779f6fe95446c20e64d50de7a222e16f88e60799ade247e2867ab1e", func := "loop.example/g01004/laws.FnExactSmallestModel", spec := "fnExactSmallestModel", unfollowed := true, recurses := true, apart := false, narrowed := true }
def FnExactSmallestModelUptoSaid : Prop := fnExactSmallestModelUptoRow.holds Try.pinned (OpenSpec.upto fnExactSmallestModelSpec)

/-- 'laws.FnExactAreIsomorphic', WHERE WHAT IT READS IS OF BULK AT MOST 1048576: true; the input reads as it did. -/
def fnExactAreIsomorphicUptoRow : OpenClaim := { program := "ytmknmjkcnlennaa", sum := "ce7080226779f6fe95446c20e64d50de7a222e16f88e60799ade247e2867ab1e", func := "loop.example/g01004/laws.FnExactAreIsomorphic", spec := "fnExactAreIsomorphic", unfollowed := true, recurses := true, apart := false, narrowed := true }
def FnExactAreIsomorphicUptoSaid : Prop := fnExactAreIsomorphicUptoRow.holds Try.pinned (OpenSpec.upto fnExactAreIsomorphicSpec)

/-- 'laws.FnExactIsIntegerPoint', WHERE WHAT IT READS IS OF BULK AT MOST 1048576: true; the input reads as it did. -/
def fnExactIsIntegerPointUptoRow : OpenClaim := { program := "ytmknmjkcnlennaa", sum := "ce7080226779f6fe95446c20e64d50de7a222e16f88e60799ade247e2867ab1e", func := "loop.example/g01004/laws.FnExactIsIntegerPoint", spec := "fnExactIsIntegerPoint", unfollowed := true, recurses := true, apart := false, narrowed := true }
def FnExactIsIntegerPointUptoSaid : Prop := fnExactIsIntegerPointUptoRow.holds Try.pinned (OpenSpec.upto fnExactIsIntegerPointSpec)

/-- 'laws.FnExactOrderTwoAt', WHERE WHAT IT READS IS OF BULK AT MOST 1048576: true; the input reads as it did. -/
def fnExactOrderTwoAtUptoRow : OpenClaim := { program := "ytmknmjkcnlennaa", sum := "ce7080226779f6fe95446c20e64d50de7a222e16f88e60799ade247e2867ab1e", func := "loop.example/g01004/laws.FnExactOrderTwoAt", spec := "fnExactOrderTwoAt", unfollowed := true, recurses := true, apart := false, narrowed := true }
def FnExactOrderTwoAtUptoSaid : Prop := fnExactOrderTwoAtUptoRow.holds Try.pinned (OpenSpec.upto fnExactOrderTwoAtSpec)

/-- 'laws.FnExactRealParts', WHERE WHAT IT READS IS OF BULK AT MOST 1048576: true; the input reads as it did. -/
def fnExactRealPartsUptoRow : OpenClaim := { program := "ytmknmjkcnlennaa", sum := "ce7080226779f6fe95446c20e64d50de7a222e16f88e60799ade247e2867ab1e", func := "loop.example/g01004/laws.FnExactRealParts", spec := "fnExactRealParts", unfollowed := true, recurses := true, apart := false, narrowed := true }
def FnExactRealPartsUptoSaid : Prop := fnExactRealPartsUptoRow.holds Try.pinned (OpenSpec.upto fnExactRealPartsSpec)

/-- 'laws.FnExactBadPrimes', WHERE WHAT IT READS IS OF BULK AT MOST 1048576: true; the input reads as it did. -/
def fnExactBadPrimesUptoRow : OpenClaim := { program := "ytmknmjkcnlennaa", sum := "ce7080226779f6fe95446c20e64d50de7a222e16f88e60799ade247e2867ab1e", func := "loop.example/g01004/laws.FnExactBadPrimes", spec := "fnExactBadPrimes", unfollowed := true, recurses := true, apart := false, narrowed := true }
def FnExactBadPrimesUptoSaid : Prop := fnExactBadPrimesUptoRow.holds Try.pinned (OpenSpec.upto fnExactBadPrimesSpec)

end Rows
end Go.Proofs.Ytmknmjkcnlennaa
