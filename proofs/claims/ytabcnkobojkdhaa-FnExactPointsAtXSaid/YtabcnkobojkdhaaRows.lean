/-
  No cell of these rows narrows 'for every input' (looked for: loops, veiled, ifaces, maps, wideKeys, modest, calm, conditions, laid).
  DERIVED. THE GIVEN ROWS OF THIS SEAT. 4 by the template 'for every input the law returns true; each argument reads behind the call as it read before'; 0 by the template 'total and deterministic' (their statements: YtabcnkobojkdhaaTotals.lean).
  GIVEN WITH THE SEED: the statements are not yours to turn. If you find one false, say at which input.
  Laid BY PROGRAM, IN A SANDBOX (cutbox-rows.mjs): the forced cells as the released guide's own fill.sh prints them over the translation 3e82d846297b625e… (all of the seat's roots in one cut). By AI agents, Wed Nov 11 2026. No macro, syntax, notation, axiom, sorry.
-/
import Derived.Test.YtabcnkobojkdhaaChecked
import GoSem.Claim
import GoSem.ClaimJoined
import GoSem.ClaimMapViews
import Derived.JoinedTies
import Derived.KernelRfl
namespace Go.Proofs.Ytabcnkobojkdhaa
/- THE CELL 'sum', in the pinned program and in every row, IS THE sha256 OF THE DUMP (.gsa) THAT YtabcnkobojkdhaaProg.lean LOADS. Nothing in Lean hashes anything: it is a label: what it is worth is what the hold of that sum in a sandbox is worth. -/
noncomputable def Try.pinned : Pinned := { name := "ytabcnkobojkdhaa", sum := "3e82d846297b625e945d8eeab34e88d8eadcfc75b1fe9510930c0ab4e2d7429d", checked := Try.checked }
namespace Rows
def none {H : Type} : Left H := { results := [], args := [] }

/-- 'laws.FnExactIsPointOf': WHATEVER THE INPUT: true; the input reads as it did. -/
def fnExactIsPointOfSpec : ChangeSpec := { name := "fnExactIsPointOf", fn := fun _ => fun
  | [d1, d2] => { results := [.lit (.bool true)], args := [d1, d2] }
  | _ => none }
def fnExactIsPointOfRow : OpenClaim := { program := "ytabcnkobojkdhaa", sum := "3e82d846297b625e945d8eeab34e88d8eadcfc75b1fe9510930c0ab4e2d7429d", func := "loop.example/g01004/laws.FnExactIsPointOf", spec := "fnExactIsPointOf", unfollowed := true, recurses := true, apart := false }
def FnExactIsPointOfSaid : Prop := fnExactIsPointOfRow.holds Try.pinned (OpenSpec.ofChange fnExactIsPointOfSpec)

/-- ITS FALSE NEIGHBOUR: 'it returns false'. Refute it at one input. -/
def fnExactIsPointOfWrong : ChangeSpec := { name := "fnExactIsPointOf", fn := fun _ => fun
  | [d1, d2] => { results := [.lit (.bool false)], args := [d1, d2] }
  | _ => none }
def FnExactIsPointOfWrongFalsely : Prop := fnExactIsPointOfRow.holds Try.pinned (OpenSpec.ofChange fnExactIsPointOfWrong)

/-- 'laws.FnExactNegatePoint': WHATEVER THE INPUT: true; the input reads as it did. -/
def fnExactNegatePointSpec : ChangeSpec := { name := "fnExactNegatePoint", fn := fun _ => fun
  | [d1, d2] => { results := [.lit (.bool true)], args := [d1, d2] }
  | _ => none }
def fnExactNegatePointRow : OpenClaim := { program := "ytabcnkobojkdhaa", sum := "3e82d846297b625e945d8eeab34e88d8eadcfc75b1fe9510930c0ab4e2d7429d", func := "loop.example/g01004/laws.FnExactNegatePoint", spec := "fnExactNegatePoint", unfollowed := true, recurses := true, apart := false }
def FnExactNegatePointSaid : Prop := fnExactNegatePointRow.holds Try.pinned (OpenSpec.ofChange fnExactNegatePointSpec)

/-- ITS FALSE NEIGHBOUR: 'it returns false'. Refute it at one input. -/
def fnExactNegatePointWrong : ChangeSpec := { name := "fnExactNegatePoint", fn := fun _ => fun
  | [d1, d2] => { results := [.lit (.bool false)], args := [d1, d2] }
  | _ => none }
def FnExactNegatePointWrongFalsely : Prop := fnExactNegatePointRow.holds Try.pinned (OpenSpec.ofChange fnExactNegatePointWrong)

/-- 'laws.FnExactPointsAtX': WHATEVER THE INPUT: true; the input reads as it did. -/
def fnExactPointsAtXSpec : ChangeSpec := { name := "fnExactPointsAtX", fn := fun _ => fun
  | [d1, d2] => { results := [.lit (.bool true)], args := [d1, d2] }
  | _ => none }
def fnExactPointsAtXRow : OpenClaim := { program := "ytabcnkobojkdhaa", sum := "3e82d846297b625e945d8eeab34e88d8eadcfc75b1fe9510930c0ab4e2d7429d", func := "loop.example/g01004/laws.FnExactPointsAtX", spec := "fnExactPointsAtX", unfollowed := true, recurses := true, apart := false }
def FnExactPointsAtXSaid : Prop := fnExactPointsAtXRow.holds Try.pinned (OpenSpec.ofChange fnExactPointsAtXSpec)

/-- ITS FALSE NEIGHBOUR: 'it returns false'. Refute it at one input. -/
def fnExactPointsAtXWrong : ChangeSpec := { name := "fnExactPointsAtX", fn := fun _ => fun
  | [d1, d2] => { results := [.lit (.bool false)], args := [d1, d2] }
  | _ => none }
def FnExactPointsAtXWrongFalsely : Prop := fnExactPointsAtXRow.holds Try.pinned (OpenSpec.ofChange fnExactPointsAtXWrong)

/-- 'laws.FnExactPointHeight': WHATEVER THE INPUT: true; the input reads as it did. -/
def fnExactPointHeightSpec : ChangeSpec := { name := "fnExactPointHeight", fn := fun _ => fun
  | [d1, d2] => { results := [.lit (.bool true)], args := [d1, d2] }
  | _ => none }
def fnExactPointHeightRow : OpenClaim := { program := "ytabcnkobojkdhaa", sum := "3e82d846297b625e945d8eeab34e88d8eadcfc75b1fe9510930c0ab4e2d7429d", func := "loop.example/g01004/laws.FnExactPointHeight", spec := "fnExactPointHeight", unfollowed := true, recurses := true, apart := false }
def FnExactPointHeightSaid : Prop := fnExactPointHeightRow.holds Try.pinned (OpenSpec.ofChange fnExactPointHeightSpec)

/-- ITS FALSE NEIGHBOUR: 'it returns false'. Refute it at one input. -/
def fnExactPointHeightWrong : ChangeSpec := { name := "fnExactPointHeight", fn := fun _ => fun
  | [d1, d2] => { results := [.lit (.bool false)], args := [d1, d2] }
  | _ => none }
def FnExactPointHeightWrongFalsely : Prop := fnExactPointHeightRow.holds Try.pinned (OpenSpec.ofChange fnExactPointHeightWrong)

/- THE SECOND FORM. 'bulk': how many values and letters a reading holds, each counted each time it is reached (what is shared counts as often as it is met; a slice's spare places count too). A statement '..UptoSaid' is the law's where the arguments, and the package variables that the reading takes, are together of bulk at most 1048576: NARROWER than '..Said'. Prove '..Said' where nothing that the law and all that it calls make is longer than what came in: it says more and counts as full. Else prove '..UptoSaid'. A law counts once. -/
mutual
def uptoBulk {H : Type} : DataW H → Nat
  | .lit (.string bytes) => bytes.length + 1
  | .lit _ => 1
  | .nil => 1
  | .ptr d => uptoBulk d + 1
  | .slice elems spare => uptoBulkAll elems + uptoBulkAll spare + 1
  | .agg parts => uptoBulkAll parts + 1
  | .iface _ d => uptoBulk d + 1
  | .map entries => uptoBulkEntries entries + 1
  | .held _ => 1
def uptoBulkAll {H : Type} : List (DataW H) → Nat
  | [] => 0
  | d :: r => uptoBulk d + uptoBulkAll r
def uptoBulkEntries {H : Type} : List (Lit × DataW H) → Nat
  | [] => 0
  | x :: r => uptoBulkEntry x + uptoBulkEntries r
def uptoBulkEntry {H : Type} : Lit × DataW H → Nat
  | (.string bytes, d) => bytes.length + uptoBulk d + 1
  | (_, d) => uptoBulk d + 1
 end
def uptoSmall : (H : Type) → List (DataW H) → Bool := fun _ ds => decide (uptoBulkAll ds ≤ 1048576)
def OpenSpec.upto (s : _root_.Go.ChangeSpec) : _root_.Go.OpenSpec := { _root_.Go.OpenSpec.ofChange s with cond := some uptoSmall }

/-- 'laws.FnExactIsPointOf', WHERE WHAT IT READS IS OF BULK AT MOST 1048576: true; the input reads as it did. -/
def fnExactIsPointOfUptoRow : OpenClaim := { program := "ytabcnkobojkdhaa", sum := "3e82d846297b625e945d8eeab34e88d8eadcfc75b1fe9510930c0ab4e2d7429d", func := "loop.example/g01004/laws.FnExactIsPointOf", spec := "fnExactIsPointOf", unfollowed := true, recurses := true, apart := false, narrowed := true }
def FnExactIsPointOfUptoSaid : Prop := fnExactIsPointOfUptoRow.holds Try.pinned (OpenSpec.upto fnExactIsPointOfSpec)

/-- 'laws.FnExactNegatePoint', WHERE WHAT IT READS IS OF BULK AT MOST 1048576: true; the input reads as it did. -/
def fnExactNegatePointUptoRow : OpenClaim := { program := "ytabcnkobojkdhaa", sum := "3e82d846297b625e945d8eeab34e88d8eadcfc75b1fe9510930c0ab4e2d7429d", func := "loop.example/g01004/laws.FnExactNegatePoint", spec := "fnExactNegatePoint", unfollowed := true, recurses := true, apart := false, narrowed := true }
def FnExactNegatePointUptoSaid : Prop := fnExactNegatePointUptoRow.holds Try.pinned (OpenSpec.upto fnExactNegatePointSpec)

/-- 'laws.FnExactPointsAtX', WHERE WHAT IT READS IS OF BULK AT MOST 1048576: true; the input reads as it did. -/
def fnExactPointsAtXUptoRow : OpenClaim := { program := "ytabcnkobojkdhaa", sum := "3e82d846297b625e945d8eeab34e88d8eadcfc75b1fe9510930c0ab4e2d7429d", func := "loop.example/g01004/laws.FnExactPointsAtX", spec := "fnExactPointsAtX", unfollowed := true, recurses := true, apart := false, narrowed := true }
def FnExactPointsAtXUptoSaid : Prop := fnExactPointsAtXUptoRow.holds Try.pinned (OpenSpec.upto fnExactPointsAtXSpec)

/-- 'laws.FnExactPointHeight', WHERE WHAT IT READS IS OF BULK AT MOST 1048576: true; the input reads as it did. -/
def fnExactPointHeightUptoRow : OpenClaim := { program := "ytabcnkobojkdhaa", sum := "3e82d846297b625e945d8eeab34e88d8eadcfc75b1fe9510930c0ab4e2d7429d", func := "loop.example/g01004/laws.FnExactPointHeight", spec := "fnExactPointHeight", unfollowed := true, recurses := true, apart := false, narrowed := true }
def FnExactPointHeightUptoSaid : Prop := fnExactPointHeightUptoRow.holds Try.pinned (OpenSpec.upto fnExactPointHeightSpec)

end Rows
end Go.Proofs.Ytabcnkobojkdhaa
