/-
  No cell of these rows narrows 'for every input' (looked for: loops, veiled, ifaces, maps, wideKeys, modest, calm, conditions, laid).
  DERIVED. THE GIVEN ROWS OF THIS SEAT. 11 by the template 'for every input the law returns true; each argument reads behind the call as it read before'; 0 by the template 'total and deterministic' (their statements: YtlkdelhmjjnnnaaTotals.lean).
  GIVEN WITH THE SEED: the statements are not yours to turn. If you find one false, say at which input.
  Laid BY PROGRAM, IN A SANDBOX (cutbox-rows.mjs): the forced cells as the released guide's own fill.sh prints them over the translation d33b28c00f5acb29… (all of the seat's roots in one cut). By AI agents, Wed Nov 11 2026. No macro, syntax, notation, axiom, sorry.
-/
import Derived.Test.YtlkdelhmjjnnnaaChecked
import GoSem.Claim
import GoSem.ClaimJoined
import GoSem.ClaimMapViews
import Derived.JoinedTies
import Derived.KernelRfl
namespace Go.Proofs.Ytlkdelhmjjnnnaa
/- THE CELL 'sum', in the pinned program and in every row, IS THE sha256 OF THE DUMP (.gsa) THAT YtlkdelhmjjnnnaaProg.lean LOADS. Nothing in Lean hashes anything: it is a label: what it is worth is what the hold of that sum in a sandbox is worth. -/
noncomputable def Try.pinned : Pinned := { name := "ytlkdelhmjjnnnaa", sum := "d33b28c00f5acb29c0f9e15e7ad2323ee7b6654aa5139b36a574b99733102477", checked := Try.checked }
namespace Rows
def none {H : Type} : Left H := { results := [], args := [] }

/-- 'laws.FnExactIsWhole': WHATEVER THE INPUT: true; the input reads as it did. -/
def fnExactIsWholeSpec : ChangeSpec := { name := "fnExactIsWhole", fn := fun _ => fun
  | [d] => { results := [.lit (.bool true)], args := [d] }
  | _ => none }
def fnExactIsWholeRow : OpenClaim := { program := "ytlkdelhmjjnnnaa", sum := "d33b28c00f5acb29c0f9e15e7ad2323ee7b6654aa5139b36a574b99733102477", func := "loop.example/g01004/laws.FnExactIsWhole", spec := "fnExactIsWhole", apart := false }
def FnExactIsWholeSaid : Prop := fnExactIsWholeRow.holds Try.pinned (OpenSpec.ofChange fnExactIsWholeSpec)

/-- ITS FALSE NEIGHBOUR: 'it returns false'. Refute it at one input. -/
def fnExactIsWholeWrong : ChangeSpec := { name := "fnExactIsWhole", fn := fun _ => fun
  | [d] => { results := [.lit (.bool false)], args := [d] }
  | _ => none }
def FnExactIsWholeWrongFalsely : Prop := fnExactIsWholeRow.holds Try.pinned (OpenSpec.ofChange fnExactIsWholeWrong)

/-- 'laws.FnExactWholeOf': WHATEVER THE INPUT: true; the input reads as it did. -/
def fnExactWholeOfSpec : ChangeSpec := { name := "fnExactWholeOf", fn := fun _ => fun
  | [d] => { results := [.lit (.bool true)], args := [d] }
  | _ => none }
def fnExactWholeOfRow : OpenClaim := { program := "ytlkdelhmjjnnnaa", sum := "d33b28c00f5acb29c0f9e15e7ad2323ee7b6654aa5139b36a574b99733102477", func := "loop.example/g01004/laws.FnExactWholeOf", spec := "fnExactWholeOf", apart := false }
def FnExactWholeOfSaid : Prop := fnExactWholeOfRow.holds Try.pinned (OpenSpec.ofChange fnExactWholeOfSpec)

/-- ITS FALSE NEIGHBOUR: 'it returns false'. Refute it at one input. -/
def fnExactWholeOfWrong : ChangeSpec := { name := "fnExactWholeOf", fn := fun _ => fun
  | [d] => { results := [.lit (.bool false)], args := [d] }
  | _ => none }
def FnExactWholeOfWrongFalsely : Prop := fnExactWholeOfRow.holds Try.pinned (OpenSpec.ofChange fnExactWholeOfWrong)

/-- 'laws.FnExactAddWholes': WHATEVER THE INPUT: true; the input reads as it did. -/
def fnExactAddWholesSpec : ChangeSpec := { name := "fnExactAddWholes", fn := fun _ => fun
  | [d1, d2] => { results := [.lit (.bool true)], args := [d1, d2] }
  | _ => none }
def fnExactAddWholesRow : OpenClaim := { program := "ytlkdelhmjjnnnaa", sum := "d33b28c00f5acb29c0f9e15e7ad2323ee7b6654aa5139b36a574b99733102477", func := "loop.example/g01004/laws.FnExactAddWholes", spec := "fnExactAddWholes", unfollowed := true, recurses := true, apart := false }
def FnExactAddWholesSaid : Prop := fnExactAddWholesRow.holds Try.pinned (OpenSpec.ofChange fnExactAddWholesSpec)

/-- ITS FALSE NEIGHBOUR: 'it returns false'. Refute it at one input. -/
def fnExactAddWholesWrong : ChangeSpec := { name := "fnExactAddWholes", fn := fun _ => fun
  | [d1, d2] => { results := [.lit (.bool false)], args := [d1, d2] }
  | _ => none }
def FnExactAddWholesWrongFalsely : Prop := fnExactAddWholesRow.holds Try.pinned (OpenSpec.ofChange fnExactAddWholesWrong)

/-- 'laws.FnExactSubtractWholes': WHATEVER THE INPUT: true; the input reads as it did. -/
def fnExactSubtractWholesSpec : ChangeSpec := { name := "fnExactSubtractWholes", fn := fun _ => fun
  | [d1, d2] => { results := [.lit (.bool true)], args := [d1, d2] }
  | _ => none }
def fnExactSubtractWholesRow : OpenClaim := { program := "ytlkdelhmjjnnnaa", sum := "d33b28c00f5acb29c0f9e15e7ad2323ee7b6654aa5139b36a574b99733102477", func := "loop.example/g01004/laws.FnExactSubtractWholes", spec := "fnExactSubtractWholes", unfollowed := true, recurses := true, apart := false }
def FnExactSubtractWholesSaid : Prop := fnExactSubtractWholesRow.holds Try.pinned (OpenSpec.ofChange fnExactSubtractWholesSpec)

/-- ITS FALSE NEIGHBOUR: 'it returns false'. Refute it at one input. -/
def fnExactSubtractWholesWrong : ChangeSpec := { name := "fnExactSubtractWholes", fn := fun _ => fun
  | [d1, d2] => { results := [.lit (.bool false)], args := [d1, d2] }
  | _ => none }
def FnExactSubtractWholesWrongFalsely : Prop := fnExactSubtractWholesRow.holds Try.pinned (OpenSpec.ofChange fnExactSubtractWholesWrong)

/-- 'laws.FnExactMultiplyWholes': WHATEVER THE INPUT: true; the input reads as it did. -/
def fnExactMultiplyWholesSpec : ChangeSpec := { name := "fnExactMultiplyWholes", fn := fun _ => fun
  | [d1, d2] => { results := [.lit (.bool true)], args := [d1, d2] }
  | _ => none }
def fnExactMultiplyWholesRow : OpenClaim := { program := "ytlkdelhmjjnnnaa", sum := "d33b28c00f5acb29c0f9e15e7ad2323ee7b6654aa5139b36a574b99733102477", func := "loop.example/g01004/laws.FnExactMultiplyWholes", spec := "fnExactMultiplyWholes", unfollowed := true, recurses := true, apart := false }
def FnExactMultiplyWholesSaid : Prop := fnExactMultiplyWholesRow.holds Try.pinned (OpenSpec.ofChange fnExactMultiplyWholesSpec)

/-- ITS FALSE NEIGHBOUR: 'it returns false'. Refute it at one input. -/
def fnExactMultiplyWholesWrong : ChangeSpec := { name := "fnExactMultiplyWholes", fn := fun _ => fun
  | [d1, d2] => { results := [.lit (.bool false)], args := [d1, d2] }
  | _ => none }
def FnExactMultiplyWholesWrongFalsely : Prop := fnExactMultiplyWholesRow.holds Try.pinned (OpenSpec.ofChange fnExactMultiplyWholesWrong)

/-- 'laws.FnExactDivideWhole': WHATEVER THE INPUT: true; the input reads as it did. -/
def fnExactDivideWholeSpec : ChangeSpec := { name := "fnExactDivideWhole", fn := fun _ => fun
  | [d1, d2] => { results := [.lit (.bool true)], args := [d1, d2] }
  | _ => none }
def fnExactDivideWholeRow : OpenClaim := { program := "ytlkdelhmjjnnnaa", sum := "d33b28c00f5acb29c0f9e15e7ad2323ee7b6654aa5139b36a574b99733102477", func := "loop.example/g01004/laws.FnExactDivideWhole", spec := "fnExactDivideWhole", unfollowed := true, recurses := true, apart := false }
def FnExactDivideWholeSaid : Prop := fnExactDivideWholeRow.holds Try.pinned (OpenSpec.ofChange fnExactDivideWholeSpec)

/-- ITS FALSE NEIGHBOUR: 'it returns false'. Refute it at one input. -/
def fnExactDivideWholeWrong : ChangeSpec := { name := "fnExactDivideWhole", fn := fun _ => fun
  | [d1, d2] => { results := [.lit (.bool false)], args := [d1, d2] }
  | _ => none }
def FnExactDivideWholeWrongFalsely : Prop := fnExactDivideWholeRow.holds Try.pinned (OpenSpec.ofChange fnExactDivideWholeWrong)

/-- 'laws.FnExactCompareWholes': WHATEVER THE INPUT: true; the input reads as it did. -/
def fnExactCompareWholesSpec : ChangeSpec := { name := "fnExactCompareWholes", fn := fun _ => fun
  | [d1, d2] => { results := [.lit (.bool true)], args := [d1, d2] }
  | _ => none }
def fnExactCompareWholesRow : OpenClaim := { program := "ytlkdelhmjjnnnaa", sum := "d33b28c00f5acb29c0f9e15e7ad2323ee7b6654aa5139b36a574b99733102477", func := "loop.example/g01004/laws.FnExactCompareWholes", spec := "fnExactCompareWholes", apart := false }
def FnExactCompareWholesSaid : Prop := fnExactCompareWholesRow.holds Try.pinned (OpenSpec.ofChange fnExactCompareWholesSpec)

/-- ITS FALSE NEIGHBOUR: 'it returns false'. Refute it at one input. -/
def fnExactCompareWholesWrong : ChangeSpec := { name := "fnExactCompareWholes", fn := fun _ => fun
  | [d1, d2] => { results := [.lit (.bool false)], args := [d1, d2] }
  | _ => none }
def FnExactCompareWholesWrongFalsely : Prop := fnExactCompareWholesRow.holds Try.pinned (OpenSpec.ofChange fnExactCompareWholesWrong)

/-- 'laws.FnExactBitLength': WHATEVER THE INPUT: true; the input reads as it did. -/
def fnExactBitLengthSpec : ChangeSpec := { name := "fnExactBitLength", fn := fun _ => fun
  | [d] => { results := [.lit (.bool true)], args := [d] }
  | _ => none }
def fnExactBitLengthRow : OpenClaim := { program := "ytlkdelhmjjnnnaa", sum := "d33b28c00f5acb29c0f9e15e7ad2323ee7b6654aa5139b36a574b99733102477", func := "loop.example/g01004/laws.FnExactBitLength", spec := "fnExactBitLength", apart := false }
def FnExactBitLengthSaid : Prop := fnExactBitLengthRow.holds Try.pinned (OpenSpec.ofChange fnExactBitLengthSpec)

/-- ITS FALSE NEIGHBOUR: 'it returns false'. Refute it at one input. -/
def fnExactBitLengthWrong : ChangeSpec := { name := "fnExactBitLength", fn := fun _ => fun
  | [d] => { results := [.lit (.bool false)], args := [d] }
  | _ => none }
def FnExactBitLengthWrongFalsely : Prop := fnExactBitLengthRow.holds Try.pinned (OpenSpec.ofChange fnExactBitLengthWrong)

/-- 'laws.FnExactDivisorWith': WHATEVER THE INPUT: true; the input reads as it did. -/
def fnExactDivisorWithSpec : ChangeSpec := { name := "fnExactDivisorWith", fn := fun _ => fun
  | [d1, d2] => { results := [.lit (.bool true)], args := [d1, d2] }
  | _ => none }
def fnExactDivisorWithRow : OpenClaim := { program := "ytlkdelhmjjnnnaa", sum := "d33b28c00f5acb29c0f9e15e7ad2323ee7b6654aa5139b36a574b99733102477", func := "loop.example/g01004/laws.FnExactDivisorWith", spec := "fnExactDivisorWith", apart := false }
def FnExactDivisorWithSaid : Prop := fnExactDivisorWithRow.holds Try.pinned (OpenSpec.ofChange fnExactDivisorWithSpec)

/-- ITS FALSE NEIGHBOUR: 'it returns false'. Refute it at one input. -/
def fnExactDivisorWithWrong : ChangeSpec := { name := "fnExactDivisorWith", fn := fun _ => fun
  | [d1, d2] => { results := [.lit (.bool false)], args := [d1, d2] }
  | _ => none }
def FnExactDivisorWithWrongFalsely : Prop := fnExactDivisorWithRow.holds Try.pinned (OpenSpec.ofChange fnExactDivisorWithWrong)

/-- 'laws.FnExactPowerOfWhole': WHATEVER THE INPUT: true; the input reads as it did. -/
def fnExactPowerOfWholeSpec : ChangeSpec := { name := "fnExactPowerOfWhole", fn := fun _ => fun
  | [d1, d2] => { results := [.lit (.bool true)], args := [d1, d2] }
  | _ => none }
def fnExactPowerOfWholeRow : OpenClaim := { program := "ytlkdelhmjjnnnaa", sum := "d33b28c00f5acb29c0f9e15e7ad2323ee7b6654aa5139b36a574b99733102477", func := "loop.example/g01004/laws.FnExactPowerOfWhole", spec := "fnExactPowerOfWhole", unfollowed := true, recurses := true, apart := false }
def FnExactPowerOfWholeSaid : Prop := fnExactPowerOfWholeRow.holds Try.pinned (OpenSpec.ofChange fnExactPowerOfWholeSpec)

/-- ITS FALSE NEIGHBOUR: 'it returns false'. Refute it at one input. -/
def fnExactPowerOfWholeWrong : ChangeSpec := { name := "fnExactPowerOfWhole", fn := fun _ => fun
  | [d1, d2] => { results := [.lit (.bool false)], args := [d1, d2] }
  | _ => none }
def FnExactPowerOfWholeWrongFalsely : Prop := fnExactPowerOfWholeRow.holds Try.pinned (OpenSpec.ofChange fnExactPowerOfWholeWrong)

/-- 'laws.FnExactParseWhole': WHATEVER THE INPUT: true; the input reads as it did. -/
def fnExactParseWholeSpec : ChangeSpec := { name := "fnExactParseWhole", fn := fun _ => fun
  | [d] => { results := [.lit (.bool true)], args := [d] }
  | _ => none }
def fnExactParseWholeRow : OpenClaim := { program := "ytlkdelhmjjnnnaa", sum := "d33b28c00f5acb29c0f9e15e7ad2323ee7b6654aa5139b36a574b99733102477", func := "loop.example/g01004/laws.FnExactParseWhole", spec := "fnExactParseWhole", recurses := true, apart := false }
def FnExactParseWholeSaid : Prop := fnExactParseWholeRow.holds Try.pinned (OpenSpec.ofChange fnExactParseWholeSpec)

/-- ITS FALSE NEIGHBOUR: 'it returns false'. Refute it at one input. -/
def fnExactParseWholeWrong : ChangeSpec := { name := "fnExactParseWhole", fn := fun _ => fun
  | [d] => { results := [.lit (.bool false)], args := [d] }
  | _ => none }
def FnExactParseWholeWrongFalsely : Prop := fnExactParseWholeRow.holds Try.pinned (OpenSpec.ofChange fnExactParseWholeWrong)

/- THE SECOND FORM. 'bulk': how many values and letters a reading holds, each counted each time it is reached (what is shared counts as often as it is met; a slice's spare places count too). A statement '..UptoSaid' is the law's where the arguments, and the package variables that the reading takes, are together of bulk at most 1048576: NARROWER than '..Said'. Prove '..Said' where nothing that the law and all that it calls make is longer than what came in: it says more and counts as full. Else prove '..UptoSaid'. A law counts once. -/
mutual
def uptoBulk {H : Type} : DataW H → Nat
  | .lit (.string bytes) => bytes.length + 1
  | .lit _ => 1
  | .nil => 1
  | .ptr d => uptoBulk d + 1
  | .slice elems spare => uptoBulkAll elems + uptoBulkAll spare + 1
  | .agg parts => uptoBulkAll parts + 1
  | .iface _ d => uptoBulk d + 1
  | .map entries => uptoBulkEntries entries + 1
  | .held _ => 1
def uptoBulkAll {H : Type} : List (DataW H) → Nat
  | [] => 0
  | d :: r => uptoBulk d + uptoBulkAll r
def uptoBulkEntries {H : Type} : List (Lit × DataW H) → Nat
  | [] => 0
  | x :: r => uptoBulkEntry x + uptoBulkEntries r
def uptoBulkEntry {H : Type} : Lit × DataW H → Nat
  | (.string bytes, d) => bytes.length + uptoBulk d + 1
  | (_, d) => uptoBulk d + 1
 end
def uptoSmall : (H : Type) → List (DataW H) → Bool := fun _ ds => decide (uptoBulkAll ds ≤ 1048576)
def OpenSpec.upto (s : _root_.Go.ChangeSpec) : _root_.Go.OpenSpec := { _root_.Go.OpenSpec.ofChange s with cond := some uptoSmall }

/-- 'laws.FnExactIsWhole', WHERE WHAT IT READS IS OF BULK AT MOST 1048576: true; the input reads as it did. -/
def fnExactIsWholeUptoRow : OpenClaim := { program := "ytlkdelhmjjnnnaa", sum := "d33b28c00f5acb29c0f9e15e7ad2323ee7b6654aa5139b36a574b99733102477", func := "loop.example/g01004/laws.FnExactIsWhole", spec := "fnExactIsWhole", apart := false, narrowed := true }
def FnExactIsWholeUptoSaid : Prop := fnExactIsWholeUptoRow.holds Try.pinned (OpenSpec.upto fnExactIsWholeSpec)

/-- 'laws.FnExactWholeOf', WHERE WHAT IT READS IS OF BULK AT MOST 1048576: true; the input reads as it did. -/
def fnExactWholeOfUptoRow : OpenClaim := { program := "ytlkdelhmjjnnnaa", sum := "d33b28c00f5acb29c0f9e15e7ad2323ee7b6654aa5139b36a574b99733102477", func := "loop.example/g01004/laws.FnExactWholeOf", spec := "fnExactWholeOf", apart := false, narrowed := true }
def FnExactWholeOfUptoSaid : Prop := fnExactWholeOfUptoRow.holds Try.pinned (OpenSpec.upto fnExactWholeOfSpec)

/-- 'laws.FnExactAddWholes', WHERE WHAT IT READS IS OF BULK AT MOST 1048576: true; the input reads as it did. -/
def fnExactAddWholesUptoRow : OpenClaim := { program := "ytlkdelhmjjnnnaa", sum := "d33b28c00f5acb29c0f9e15e7ad2323ee7b6654aa5139b36a574b99733102477", func := "loop.example/g01004/laws.FnExactAddWholes", spec := "fnExactAddWholes", unfollowed := true, recurses := true, apart := false, narrowed := true }
def FnExactAddWholesUptoSaid : Prop := fnExactAddWholesUptoRow.holds Try.pinned (OpenSpec.upto fnExactAddWholesSpec)

/-- 'laws.FnExactSubtractWholes', WHERE WHAT IT READS IS OF BULK AT MOST 1048576: true; the input reads as it did. -/
def fnExactSubtractWholesUptoRow : OpenClaim := { program := "ytlkdelhmjjnnnaa", sum := "d33b28c00f5acb29c0f9e15e7ad2323ee7b6654aa5139b36a574b99733102477", func := "loop.example/g01004/laws.FnExactSubtractWholes", spec := "fnExactSubtractWholes", unfollowed := true, recurses := true, apart := false, narrowed := true }
def FnExactSubtractWholesUptoSaid : Prop := fnExactSubtractWholesUptoRow.holds Try.pinned (OpenSpec.upto fnExactSubtractWholesSpec)

/-- 'laws.FnExactMultiplyWholes', WHERE WHAT IT READS IS OF BULK AT MOST 1048576: true; the input reads as it did. -/
def fnExactMultiplyWholesUptoRow : OpenClaim := { program := "ytlkdelhmjjnnnaa", sum := "d33b28c00f5acb29c0f9e15e7ad2323ee7b6654aa5139b36a574b99733102477", func := "loop.example/g01004/laws.FnExactMultiplyWholes", spec := "fnExactMultiplyWholes", unfollowed := true, recurses := true, apart := false, narrowed := true }
def FnExactMultiplyWholesUptoSaid : Prop := fnExactMultiplyWholesUptoRow.holds Try.pinned (OpenSpec.upto fnExactMultiplyWholesSpec)

/-- 'laws.FnExactDivideWhole', WHERE WHAT IT READS IS OF BULK AT MOST 1048576: true; the input reads as it did. -/
def fnExactDivideWholeUptoRow : OpenClaim := { program := "ytlkdelhmjjnnnaa", sum := "d33b28c00f5acb29c0f9e15e7ad2323ee7b6654aa5139b36a574b99733102477", func := "loop.example/g01004/laws.FnExactDivideWhole", spec := "fnExactDivideWhole", unfollowed := true, recurses := true, apart := false, narrowed := true }
def FnExactDivideWholeUptoSaid : Prop := fnExactDivideWholeUptoRow.holds Try.pinned (OpenSpec.upto fnExactDivideWholeSpec)

/-- 'laws.FnExactCompareWholes', WHERE WHAT IT READS IS OF BULK AT MOST 1048576: true; the input reads as it did. -/
def fnExactCompareWholesUptoRow : OpenClaim := { program := "ytlkdelhmjjnnnaa", sum := "d33b28c00f5acb29c0f9e15e7ad2323ee7b6654aa5139b36a574b99733102477", func := "loop.example/g01004/laws.FnExactCompareWholes", spec := "fnExactCompareWholes", apart := false, narrowed := true }
def FnExactCompareWholesUptoSaid : Prop := fnExactCompareWholesUptoRow.holds Try.pinned (OpenSpec.upto fnExactCompareWholesSpec)

/-- 'laws.FnExactBitLength', WHERE WHAT IT READS IS OF BULK AT MOST 1048576: true; the input reads as it did. -/
def fnExactBitLengthUptoRow : OpenClaim := { program := "ytlkdelhmjjnnnaa", sum := "d33b28c00f5acb29c0f9e15e7ad2323ee7b6654aa5139b36a574b99733102477", func := "loop.example/g01004/laws.FnExactBitLength", spec := "fnExactBitLength", apart := false, narrowed := true }
def FnExactBitLengthUptoSaid : Prop := fnExactBitLengthUptoRow.holds Try.pinned (OpenSpec.upto fnExactBitLengthSpec)

/-- 'laws.FnExactDivisorWith', WHERE WHAT IT READS IS OF BULK AT MOST 1048576: true; the input reads as it did. -/
def fnExactDivisorWithUptoRow : OpenClaim := { program := "ytlkdelhmjjnnnaa", sum := "d33b28c00f5acb29c0f9e15e7ad2323ee7b6654aa5139b36a574b99733102477", func := "loop.example/g01004/laws.FnExactDivisorWith", spec := "fnExactDivisorWith", apart := false, narrowed := true }
def FnExactDivisorWithUptoSaid : Prop := fnExactDivisorWithUptoRow.holds Try.pinned (OpenSpec.upto fnExactDivisorWithSpec)

/-- 'laws.FnExactPowerOfWhole', WHERE WHAT IT READS IS OF BULK AT MOST 1048576: true; the input reads as it did. -/
def fnExactPowerOfWholeUptoRow : OpenClaim := { program := "ytlkdelhmjjnnnaa", sum := "d33b28c00f5acb29c0f9e15e7ad2323ee7b6654aa5139b36a574b99733102477", func := "loop.example/g01004/laws.FnExactPowerOfWhole", spec := "fnExactPowerOfWhole", unfollowed := true, recurses := true, apart := false, narrowed := true }
def FnExactPowerOfWholeUptoSaid : Prop := fnExactPowerOfWholeUptoRow.holds Try.pinned (OpenSpec.upto fnExactPowerOfWholeSpec)

/-- 'laws.FnExactParseWhole', WHERE WHAT IT READS IS OF BULK AT MOST 1048576: true; the input reads as it did. -/
def fnExactParseWholeUptoRow : OpenClaim := { program := "ytlkdelhmjjnnnaa", sum := "d33b28c00f5acb29c0f9e15e7ad2323ee7b6654aa5139b36a574b99733102477", func := "loop.example/g01004/laws.FnExactParseWhole", spec := "fnExactParseWhole", recurses := true, apart := false, narrowed := true }
def FnExactParseWholeUptoSaid : Prop := fnExactParseWholeUptoRow.holds Try.pinned (OpenSpec.upto fnExactParseWholeSpec)

end Rows
end Go.Proofs.Ytlkdelhmjjnnnaa
