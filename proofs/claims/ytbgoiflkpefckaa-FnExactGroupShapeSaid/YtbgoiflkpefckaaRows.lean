/-
  No cell of these rows narrows 'for every input' (looked for: loops, veiled, ifaces, maps, wideKeys, modest, calm, conditions, laid).
  DERIVED. THE GIVEN ROWS OF THIS SEAT. 10 by the template 'for every input the law returns true; each argument reads behind the call as it read before'; 0 by the template 'total and deterministic' (their statements: YtbgoiflkpefckaaTotals.lean).
  GIVEN WITH THE SEED: the statements are not yours to turn. If you find one false, say at which input.
  Laid BY PROGRAM, IN A SANDBOX (cutbox-rows.mjs): the forced cells as the released guide's own fill.sh prints them over the translation 179260e36bccc9e0… (all of the seat's roots in one cut). By AI agents, Wed Nov 11 2026. No macro, syntax, notation, axiom, sorry.
-/
import Derived.Test.YtbgoiflkpefckaaChecked
import GoSem.Claim
import GoSem.ClaimJoined
import GoSem.ClaimMapViews
import Derived.JoinedTies
import Derived.KernelRfl
namespace Go.Proofs.Ytbgoiflkpefckaa
/- THE CELL 'sum', in the pinned program and in every row, IS THE sha256 OF THE DUMP (.gsa) THAT YtbgoiflkpefckaaProg.lean LOADS. Nothing in Lean hashes anything: it is a label: what it is worth is what the hold of that sum in a sandbox is worth. -/
noncomputable def Try.pinned : Pinned := { name := "ytbgoiflkpefckaa", sum := "179260e36bccc9e0d082329206f253fa45e8b30d4ed44322b270e4cad5740ab8", checked := Try.checked }
namespace Rows
def none {H : Type} : Left H := { results := [], args := [] }

/-- 'laws.FnExactIsGoodPrime': WHATEVER THE INPUT: true; the input reads as it did. -/
def fnExactIsGoodPrimeSpec : ChangeSpec := { name := "fnExactIsGoodPrime", fn := fun _ => fun
  | [d1, d2] => { results := [.lit (.bool true)], args := [d1, d2] }
  | _ => none }
def fnExactIsGoodPrimeRow : OpenClaim := { program := "ytbgoiflkpefckaa", sum := "179260e36bccc9e0d082329206f253fa45e8b30d4ed44322b270e4cad5740ab8", func := "loop.example/g01004/laws.FnExactIsGoodPrime", spec := "fnExactIsGoodPrime", unfollowed := true, recurses := true, plainKeys := false, apart := false }
def FnExactIsGoodPrimeSaid : Prop := fnExactIsGoodPrimeRow.holds Try.pinned (OpenSpec.ofChange fnExactIsGoodPrimeSpec)

/-- ITS FALSE NEIGHBOUR: 'it returns false'. Refute it at one input. -/
def fnExactIsGoodPrimeWrong : ChangeSpec := { name := "fnExactIsGoodPrime", fn := fun _ => fun
  | [d1, d2] => { results := [.lit (.bool false)], args := [d1, d2] }
  | _ => none }
def FnExactIsGoodPrimeWrongFalsely : Prop := fnExactIsGoodPrimeRow.holds Try.pinned (OpenSpec.ofChange fnExactIsGoodPrimeWrong)

/-- 'laws.FnExactCountPoints': WHATEVER THE INPUT: true; the input reads as it did. -/
def fnExactCountPointsSpec : ChangeSpec := { name := "fnExactCountPoints", fn := fun _ => fun
  | [d1, d2] => { results := [.lit (.bool true)], args := [d1, d2] }
  | _ => none }
def fnExactCountPointsRow : OpenClaim := { program := "ytbgoiflkpefckaa", sum := "179260e36bccc9e0d082329206f253fa45e8b30d4ed44322b270e4cad5740ab8", func := "loop.example/g01004/laws.FnExactCountPoints", spec := "fnExactCountPoints", unfollowed := true, recurses := true, plainKeys := false, apart := false }
def FnExactCountPointsSaid : Prop := fnExactCountPointsRow.holds Try.pinned (OpenSpec.ofChange fnExactCountPointsSpec)

/-- ITS FALSE NEIGHBOUR: 'it returns false'. Refute it at one input. -/
def fnExactCountPointsWrong : ChangeSpec := { name := "fnExactCountPoints", fn := fun _ => fun
  | [d1, d2] => { results := [.lit (.bool false)], args := [d1, d2] }
  | _ => none }
def FnExactCountPointsWrongFalsely : Prop := fnExactCountPointsRow.holds Try.pinned (OpenSpec.ofChange fnExactCountPointsWrong)

/-- 'laws.FnExactPointsModulo': WHATEVER THE INPUT: true; the input reads as it did. -/
def fnExactPointsModuloSpec : ChangeSpec := { name := "fnExactPointsModulo", fn := fun _ => fun
  | [d1, d2] => { results := [.lit (.bool true)], args := [d1, d2] }
  | _ => none }
def fnExactPointsModuloRow : OpenClaim := { program := "ytbgoiflkpefckaa", sum := "179260e36bccc9e0d082329206f253fa45e8b30d4ed44322b270e4cad5740ab8", func := "loop.example/g01004/laws.FnExactPointsModulo", spec := "fnExactPointsModulo", unfollowed := true, recurses := true, plainKeys := false, apart := false }
def FnExactPointsModuloSaid : Prop := fnExactPointsModuloRow.holds Try.pinned (OpenSpec.ofChange fnExactPointsModuloSpec)

/-- ITS FALSE NEIGHBOUR: 'it returns false'. Refute it at one input. -/
def fnExactPointsModuloWrong : ChangeSpec := { name := "fnExactPointsModulo", fn := fun _ => fun
  | [d1, d2] => { results := [.lit (.bool false)], args := [d1, d2] }
  | _ => none }
def FnExactPointsModuloWrongFalsely : Prop := fnExactPointsModuloRow.holds Try.pinned (OpenSpec.ofChange fnExactPointsModuloWrong)

/-- 'laws.FnExactIsPointModulo': WHATEVER THE INPUT: true; the input reads as it did. -/
def fnExactIsPointModuloSpec : ChangeSpec := { name := "fnExactIsPointModulo", fn := fun _ => fun
  | [d1, d2, d3] => { results := [.lit (.bool true)], args := [d1, d2, d3] }
  | _ => none }
def fnExactIsPointModuloRow : OpenClaim := { program := "ytbgoiflkpefckaa", sum := "179260e36bccc9e0d082329206f253fa45e8b30d4ed44322b270e4cad5740ab8", func := "loop.example/g01004/laws.FnExactIsPointModulo", spec := "fnExactIsPointModulo", unfollowed := true, recurses := true, plainKeys := false, apart := false }
def FnExactIsPointModuloSaid : Prop := fnExactIsPointModuloRow.holds Try.pinned (OpenSpec.ofChange fnExactIsPointModuloSpec)

/-- ITS FALSE NEIGHBOUR: 'it returns false'. Refute it at one input. -/
def fnExactIsPointModuloWrong : ChangeSpec := { name := "fnExactIsPointModulo", fn := fun _ => fun
  | [d1, d2, d3] => { results := [.lit (.bool false)], args := [d1, d2, d3] }
  | _ => none }
def FnExactIsPointModuloWrongFalsely : Prop := fnExactIsPointModuloRow.holds Try.pinned (OpenSpec.ofChange fnExactIsPointModuloWrong)

/-- 'laws.FnExactOppositeModulo': WHATEVER THE INPUT: true; the input reads as it did. -/
def fnExactOppositeModuloSpec : ChangeSpec := { name := "fnExactOppositeModulo", fn := fun _ => fun
  | [d1, d2, d3] => { results := [.lit (.bool true)], args := [d1, d2, d3] }
  | _ => none }
def fnExactOppositeModuloRow : OpenClaim := { program := "ytbgoiflkpefckaa", sum := "179260e36bccc9e0d082329206f253fa45e8b30d4ed44322b270e4cad5740ab8", func := "loop.example/g01004/laws.FnExactOppositeModulo", spec := "fnExactOppositeModulo", unfollowed := true, recurses := true, plainKeys := false, apart := false }
def FnExactOppositeModuloSaid : Prop := fnExactOppositeModuloRow.holds Try.pinned (OpenSpec.ofChange fnExactOppositeModuloSpec)

/-- ITS FALSE NEIGHBOUR: 'it returns false'. Refute it at one input. -/
def fnExactOppositeModuloWrong : ChangeSpec := { name := "fnExactOppositeModulo", fn := fun _ => fun
  | [d1, d2, d3] => { results := [.lit (.bool false)], args := [d1, d2, d3] }
  | _ => none }
def FnExactOppositeModuloWrongFalsely : Prop := fnExactOppositeModuloRow.holds Try.pinned (OpenSpec.ofChange fnExactOppositeModuloWrong)

/-- 'laws.FnExactAddModulo': WHATEVER THE INPUT: true; the input reads as it did. -/
def fnExactAddModuloSpec : ChangeSpec := { name := "fnExactAddModulo", fn := fun _ => fun
  | [d1, d2, d3, d4] => { results := [.lit (.bool true)], args := [d1, d2, d3, d4] }
  | _ => none }
def fnExactAddModuloRow : OpenClaim := { program := "ytbgoiflkpefckaa", sum := "179260e36bccc9e0d082329206f253fa45e8b30d4ed44322b270e4cad5740ab8", func := "loop.example/g01004/laws.FnExactAddModulo", spec := "fnExactAddModulo", unfollowed := true, recurses := true, plainKeys := false, apart := false }
def FnExactAddModuloSaid : Prop := fnExactAddModuloRow.holds Try.pinned (OpenSpec.ofChange fnExactAddModuloSpec)

/-- ITS FALSE NEIGHBOUR: 'it returns false'. Refute it at one input. -/
def fnExactAddModuloWrong : ChangeSpec := { name := "fnExactAddModulo", fn := fun _ => fun
  | [d1, d2, d3, d4] => { results := [.lit (.bool false)], args := [d1, d2, d3, d4] }
  | _ => none }
def FnExactAddModuloWrongFalsely : Prop := fnExactAddModuloRow.holds Try.pinned (OpenSpec.ofChange fnExactAddModuloWrong)

/-- 'laws.FnExactTimesModulo': WHATEVER THE INPUT: true; the input reads as it did. -/
def fnExactTimesModuloSpec : ChangeSpec := { name := "fnExactTimesModulo", fn := fun _ => fun
  | [d1, d2, d3, d4] => { results := [.lit (.bool true)], args := [d1, d2, d3, d4] }
  | _ => none }
def fnExactTimesModuloRow : OpenClaim := { program := "ytbgoiflkpefckaa", sum := "179260e36bccc9e0d082329206f253fa45e8b30d4ed44322b270e4cad5740ab8", func := "loop.example/g01004/laws.FnExactTimesModulo", spec := "fnExactTimesModulo", unfollowed := true, recurses := true, plainKeys := false, apart := false }
def FnExactTimesModuloSaid : Prop := fnExactTimesModuloRow.holds Try.pinned (OpenSpec.ofChange fnExactTimesModuloSpec)

/-- ITS FALSE NEIGHBOUR: 'it returns false'. Refute it at one input. -/
def fnExactTimesModuloWrong : ChangeSpec := { name := "fnExactTimesModulo", fn := fun _ => fun
  | [d1, d2, d3, d4] => { results := [.lit (.bool false)], args := [d1, d2, d3, d4] }
  | _ => none }
def FnExactTimesModuloWrongFalsely : Prop := fnExactTimesModuloRow.holds Try.pinned (OpenSpec.ofChange fnExactTimesModuloWrong)

/-- 'laws.FnExactOrderModulo': WHATEVER THE INPUT: true; the input reads as it did. -/
def fnExactOrderModuloSpec : ChangeSpec := { name := "fnExactOrderModulo", fn := fun _ => fun
  | [d1, d2, d3] => { results := [.lit (.bool true)], args := [d1, d2, d3] }
  | _ => none }
def fnExactOrderModuloRow : OpenClaim := { program := "ytbgoiflkpefckaa", sum := "179260e36bccc9e0d082329206f253fa45e8b30d4ed44322b270e4cad5740ab8", func := "loop.example/g01004/laws.FnExactOrderModulo", spec := "fnExactOrderModulo", unfollowed := true, recurses := true, plainKeys := false, apart := false }
def FnExactOrderModuloSaid : Prop := fnExactOrderModuloRow.holds Try.pinned (OpenSpec.ofChange fnExactOrderModuloSpec)

/-- ITS FALSE NEIGHBOUR: 'it returns false'. Refute it at one input. -/
def fnExactOrderModuloWrong : ChangeSpec := { name := "fnExactOrderModulo", fn := fun _ => fun
  | [d1, d2, d3] => { results := [.lit (.bool false)], args := [d1, d2, d3] }
  | _ => none }
def FnExactOrderModuloWrongFalsely : Prop := fnExactOrderModuloRow.holds Try.pinned (OpenSpec.ofChange fnExactOrderModuloWrong)

/-- 'laws.FnExactGroupShape': WHATEVER THE INPUT: true; the input reads as it did. -/
def fnExactGroupShapeSpec : ChangeSpec := { name := "fnExactGroupShape", fn := fun _ => fun
  | [d1, d2] => { results := [.lit (.bool true)], args := [d1, d2] }
  | _ => none }
def fnExactGroupShapeRow : OpenClaim := { program := "ytbgoiflkpefckaa", sum := "179260e36bccc9e0d082329206f253fa45e8b30d4ed44322b270e4cad5740ab8", func := "loop.example/g01004/laws.FnExactGroupShape", spec := "fnExactGroupShape", unfollowed := true, recurses := true, plainKeys := false, apart := false }
def FnExactGroupShapeSaid : Prop := fnExactGroupShapeRow.holds Try.pinned (OpenSpec.ofChange fnExactGroupShapeSpec)

/-- ITS FALSE NEIGHBOUR: 'it returns false'. Refute it at one input. -/
def fnExactGroupShapeWrong : ChangeSpec := { name := "fnExactGroupShape", fn := fun _ => fun
  | [d1, d2] => { results := [.lit (.bool false)], args := [d1, d2] }
  | _ => none }
def FnExactGroupShapeWrongFalsely : Prop := fnExactGroupShapeRow.holds Try.pinned (OpenSpec.ofChange fnExactGroupShapeWrong)

/-- 'laws.FnExactCountOrders': WHATEVER THE INPUT: true; the input reads as it did. -/
def fnExactCountOrdersSpec : ChangeSpec := { name := "fnExactCountOrders", fn := fun _ => fun
  | [d1, d2, d3] => { results := [.lit (.bool true)], args := [d1, d2, d3] }
  | _ => none }
def fnExactCountOrdersRow : OpenClaim := { program := "ytbgoiflkpefckaa", sum := "179260e36bccc9e0d082329206f253fa45e8b30d4ed44322b270e4cad5740ab8", func := "loop.example/g01004/laws.FnExactCountOrders", spec := "fnExactCountOrders", unfollowed := true, recurses := true, plainKeys := false, apart := false }
def FnExactCountOrdersSaid : Prop := fnExactCountOrdersRow.holds Try.pinned (OpenSpec.ofChange fnExactCountOrdersSpec)

/-- ITS FALSE NEIGHBOUR: 'it returns false'. Refute it at one input. -/
def fnExactCountOrdersWrong : ChangeSpec := { name := "fnExactCountOrders", fn := fun _ => fun
  | [d1, d2, d3] => { results := [.lit (.bool false)], args := [d1, d2, d3] }
  | _ => none }
def FnExactCountOrdersWrongFalsely : Prop := fnExactCountOrdersRow.holds Try.pinned (OpenSpec.ofChange fnExactCountOrdersWrong)

/- THE SECOND FORM. 'bulk': how many values and letters a reading holds, each counted each time it is reached (what is shared counts as often as it is met; a slice's spare places count too). A statement '..UptoSaid' is the law's where the arguments, and the package variables that the reading takes, are together of bulk at most 1048576: NARROWER than '..Said'. Prove '..Said' where nothing that the law and all that it calls make is longer than what came in: it says more and counts as full. Else prove '..UptoSaid'. A law counts once. -/
mutual
def uptoBulk {H : Type} : DataW H → Nat
  | .lit (.string bytes) => bytes.length + 1
  | .lit _ => 1
  | .nil => 1
  | .ptr d => uptoBulk d + 1
  | .slice elems spare => uptoBulkAll elems + uptoBulkAll spare + 1
  | .agg parts => uptoBulkAll parts + 1
  | .iface _ d => uptoBulk d + 1
  | .map entries => uptoBulkEntries entries + 1
  | .held _ => 1
def uptoBulkAll {H : Type} : List (DataW H) → Nat
  | [] => 0
  | d :: r => uptoBulk d + uptoBulkAll r
def uptoBulkEntries {H : Type} : List (Lit × DataW H) → Nat
  | [] => 0
  | x :: r => uptoBulkEntry x + uptoBulkEntries r
def uptoBulkEntry {H : Type} : Lit × DataW H → Nat
  | (.string bytes, d) => bytes.length + uptoBulk d + 1
  | (_, d) => uptoBulk d + 1
 end
def uptoSmall : (H : Type) → List (DataW H) → Bool := fun _ ds => decide (uptoBulkAll ds ≤ 1048576)
def OpenSpec.upto (s : _root_.Go.ChangeSpec) : _root_.Go.OpenSpec := { _root_.Go.OpenSpec.ofChange s with cond := some uptoSmall }

/-- 'laws.FnExactIsGoodPrime', WHERE WHAT IT READS IS OF BULK AT MOST 1048576: true; the input reads as it did. -/
def fnExactIsGoodPrimeUptoRow : OpenClaim := { program := "ytbgoiflkpefckaa", sum := "179260e36bccc9e0d082329206f253fa45e8b30d4ed44322b270e4cad5740ab8", func := "loop.example/g01004/laws.FnExactIsGoodPrime", spec := "fnExactIsGoodPrime", unfollowed := true, recurses := true, plainKeys := false, apart := false, narrowed := true }
def FnExactIsGoodPrimeUptoSaid : Prop := fnExactIsGoodPrimeUptoRow.holds Try.pinned (OpenSpec.upto fnExactIsGoodPrimeSpec)

/-- 'laws.FnExactCountPoints', WHERE WHAT IT READS IS OF BULK AT MOST 1048576: true; the input reads as it did. -/
def fnExactCountPointsUptoRow : OpenClaim := { program := "ytbgoiflkpefckaa", sum := "179260e36bccc9e0d082329206f253fa45e8b30d4ed44322b270e4cad5740ab8", func := "loop.example/g01004/laws.FnExactCountPoints", spec := "fnExactCountPoints", unfollowed := true, recurses := true, plainKeys := false, apart := false, narrowed := true }
def FnExactCountPointsUptoSaid : Prop := fnExactCountPointsUptoRow.holds Try.pinned (OpenSpec.upto fnExactCountPointsSpec)

/-- 'laws.FnExactPointsModulo', WHERE WHAT IT READS IS OF BULK AT MOST 1048576: true; the input reads as it did. -/
def fnExactPointsModuloUptoRow : OpenClaim := { program := "ytbgoiflkpefckaa", sum := "179260e36bccc9e0d082329206f253fa45e8b30d4ed44322b270e4cad5740ab8", func := "loop.example/g01004/laws.FnExactPointsModulo", spec := "fnExactPointsModulo", unfollowed := true, recurses := true, plainKeys := false, apart := false, narrowed := true }
def FnExactPointsModuloUptoSaid : Prop := fnExactPointsModuloUptoRow.holds Try.pinned (OpenSpec.upto fnExactPointsModuloSpec)

/-- 'laws.FnExactIsPointModulo', WHERE WHAT IT READS IS OF BULK AT MOST 1048576: true; the input reads as it did. -/
def fnExactIsPointModuloUptoRow : OpenClaim := { program := "ytbgoiflkpefckaa", sum := "179260e36bccc9e0d082329206f253fa45e8b30d4ed44322b270e4cad5740ab8", func := "loop.example/g01004/laws.FnExactIsPointModulo", spec := "fnExactIsPointModulo", unfollowed := true, recurses := true, plainKeys := false, apart := false, narrowed := true }
def FnExactIsPointModuloUptoSaid : Prop := fnExactIsPointModuloUptoRow.holds Try.pinned (OpenSpec.upto fnExactIsPointModuloSpec)

/-- 'laws.FnExactOppositeModulo', WHERE WHAT IT READS IS OF BULK AT MOST 1048576: true; the input reads as it did. -/
def fnExactOppositeModuloUptoRow : OpenClaim := { program := "ytbgoiflkpefckaa", sum := "179260e36bccc9e0d082329206f253fa45e8b30d4ed44322b270e4cad5740ab8", func := "loop.example/g01004/laws.FnExactOppositeModulo", spec := "fnExactOppositeModulo", unfollowed := true, recurses := true, plainKeys := false, apart := false, narrowed := true }
def FnExactOppositeModuloUptoSaid : Prop := fnExactOppositeModuloUptoRow.holds Try.pinned (OpenSpec.upto fnExactOppositeModuloSpec)

/-- 'laws.FnExactAddModulo', WHERE WHAT IT READS IS OF BULK AT MOST 1048576: true; the input reads as it did. -/
def fnExactAddModuloUptoRow : OpenClaim := { program := "ytbgoiflkpefckaa", sum := "179260e36bccc9e0d082329206f253fa45e8b30d4ed44322b270e4cad5740ab8", func := "loop.example/g01004/laws.FnExactAddModulo", spec := "fnExactAddModulo", unfollowed := true, recurses := true, plainKeys := false, apart := false, narrowed := true }
def FnExactAddModuloUptoSaid : Prop := fnExactAddModuloUptoRow.holds Try.pinned (OpenSpec.upto fnExactAddModuloSpec)

/-- 'laws.FnExactTimesModulo', WHERE WHAT IT READS IS OF BULK AT MOST 1048576: true; the input reads as it did. -/
def fnExactTimesModuloUptoRow : OpenClaim := { program := "ytbgoiflkpefckaa", sum := "179260e36bccc9e0d082329206f253fa45e8b30d4ed44322b270e4cad5740ab8", func := "loop.example/g01004/laws.FnExactTimesModulo", spec := "fnExactTimesModulo", unfollowed := true, recurses := true, plainKeys := false, apart := false, narrowed := true }
def FnExactTimesModuloUptoSaid : Prop := fnExactTimesModuloUptoRow.holds Try.pinned (OpenSpec.upto fnExactTimesModuloSpec)

/-- 'laws.FnExactOrderModulo', WHERE WHAT IT READS IS OF BULK AT MOST 1048576: true; the input reads as it did. -/
def fnExactOrderModuloUptoRow : OpenClaim := { program := "ytbgoiflkpefckaa", sum := "179260e36bccc9e0d082329206f253fa45e8b30d4ed44322b270e4cad5740ab8", func := "loop.example/g01004/laws.FnExactOrderModulo", spec := "fnExactOrderModulo", unfollowed := true, recurses := true, plainKeys := false, apart := false, narrowed := true }
def FnExactOrderModuloUptoSaid : Prop := fnExactOrderModuloUptoRow.holds Try.pinned (OpenSpec.upto fnExactOrderModuloSpec)

/-- 'laws.FnExactGroupShape', WHERE WHAT IT READS IS OF BULK AT MOST 1048576: true; the input reads as it did. -/
def fnExactGroupShapeUptoRow : OpenClaim := { program := "ytbgoiflkpefckaa", sum := "179260e36bccc9e0d082329206f253fa45e8b30d4ed44322b270e4cad5740ab8", func := "loop.example/g01004/laws.FnExactGroupShape", spec := "fnExactGroupShape", unfollowed := true, recurses := true, plainKeys := false, apart := false, narrowed := true }
def FnExactGroupShapeUptoSaid : Prop := fnExactGroupShapeUptoRow.holds Try.pinned (OpenSpec.upto fnExactGroupShapeSpec)

/-- 'laws.FnExactCountOrders', WHERE WHAT IT READS IS OF BULK AT MOST 1048576: true; the input reads as it did. -/
def fnExactCountOrdersUptoRow : OpenClaim := { program := "ytbgoiflkpefckaa", sum := "179260e36bccc9e0d082329206f253fa45e8b30d4ed44322b270e4cad5740ab8", func := "loop.example/g01004/laws.FnExactCountOrders", spec := "fnExactCountOrders", unfollowed := true, recurses := true, plainKeys := false, apart := false, narrowed := true }
def FnExactCountOrdersUptoSaid : Prop := fnExactCountOrdersUptoRow.holds Try.pinned (OpenSpec.upto fnExactCountOrdersSpec)

end Rows
end Go.Proofs.Ytbgoiflkpefckaa
