/-
  No cell of these rows narrows 'for every input' (looked for: loops, veiled, ifaces, maps, wideKeys, modest, calm, conditions, laid).
  DERIVED. THE GIVEN ROWS OF THIS SEAT. 8 by the template 'for every input the law returns true; each argument reads behind the call as it read before'; 0 by the template 'total and deterministic' (their statements: YtjjdjhehdobmnaaTotals.lean).
  GIVEN WITH THE SEED: the statements are not yours to turn. If you find one false, say at which input.
  Laid BY PROGRAM, IN A SANDBOX (cutbox-rows.mjs): the forced cells as the released guide's own fill.sh prints them over the translation 903a111542d9fe1c… (all of the seat's roots in one cut). By AI agents, Wed Nov 11 2026. No macro, syntax, notation, axiom, sorry.
-/
import Derived.Test.YtjjdjhehdobmnaaChecked
import GoSem.Claim
import GoSem.ClaimJoined
import GoSem.ClaimMapViews
import Derived.JoinedTies
import Derived.KernelRfl
namespace Go.Proofs.Ytjjdjhehdobmnaa
/- THE CELL 'sum', in the pinned program and in every row, IS THE sha256 OF THE DUMP (.gsa) THAT YtjjdjhehdobmnaaProg.lean LOADS. Nothing in Lean hashes anything: it is a label: what it is worth is what the hold of that sum in a sandbox is worth. -/
noncomputable def Try.pinned : Pinned := { name := "ytjjdjhehdobmnaa", sum := "903a111542d9fe1c8729e7927a5fbaf295bad507d30d9a9f52bd8bcf5b0a1222", checked := Try.checked }
namespace Rows
def none {H : Type} : Left H := { results := [], args := [] }

/-- 'laws.FnExactIsCubic': WHATEVER THE INPUT: true; the input reads as it did. -/
def fnExactIsCubicSpec : ChangeSpec := { name := "fnExactIsCubic", fn := fun _ => fun
  | [d] => { results := [.lit (.bool true)], args := [d] }
  | _ => none }
def fnExactIsCubicRow : OpenClaim := { program := "ytjjdjhehdobmnaa", sum := "903a111542d9fe1c8729e7927a5fbaf295bad507d30d9a9f52bd8bcf5b0a1222", func := "loop.example/g01004/laws.FnExactIsCubic", spec := "fnExactIsCubic", apart := false }
def FnExactIsCubicSaid : Prop := fnExactIsCubicRow.holds Try.pinned (OpenSpec.ofChange fnExactIsCubicSpec)

/-- ITS FALSE NEIGHBOUR: 'it returns false'. Refute it at one input. -/
def fnExactIsCubicWrong : ChangeSpec := { name := "fnExactIsCubic", fn := fun _ => fun
  | [d] => { results := [.lit (.bool false)], args := [d] }
  | _ => none }
def FnExactIsCubicWrongFalsely : Prop := fnExactIsCubicRow.holds Try.pinned (OpenSpec.ofChange fnExactIsCubicWrong)

/-- 'laws.FnExactCubicAt': WHATEVER THE INPUT: true; the input reads as it did. -/
def fnExactCubicAtSpec : ChangeSpec := { name := "fnExactCubicAt", fn := fun _ => fun
  | [d1, d2] => { results := [.lit (.bool true)], args := [d1, d2] }
  | _ => none }
def fnExactCubicAtRow : OpenClaim := { program := "ytjjdjhehdobmnaa", sum := "903a111542d9fe1c8729e7927a5fbaf295bad507d30d9a9f52bd8bcf5b0a1222", func := "loop.example/g01004/laws.FnExactCubicAt", spec := "fnExactCubicAt", unfollowed := true, recurses := true, apart := false }
def FnExactCubicAtSaid : Prop := fnExactCubicAtRow.holds Try.pinned (OpenSpec.ofChange fnExactCubicAtSpec)

/-- ITS FALSE NEIGHBOUR: 'it returns false'. Refute it at one input. -/
def fnExactCubicAtWrong : ChangeSpec := { name := "fnExactCubicAt", fn := fun _ => fun
  | [d1, d2] => { results := [.lit (.bool false)], args := [d1, d2] }
  | _ => none }
def FnExactCubicAtWrongFalsely : Prop := fnExactCubicAtRow.holds Try.pinned (OpenSpec.ofChange fnExactCubicAtWrong)

/-- 'laws.FnExactCubicDiscriminant': WHATEVER THE INPUT: true; the input reads as it did. -/
def fnExactCubicDiscriminantSpec : ChangeSpec := { name := "fnExactCubicDiscriminant", fn := fun _ => fun
  | [d] => { results := [.lit (.bool true)], args := [d] }
  | _ => none }
def fnExactCubicDiscriminantRow : OpenClaim := { program := "ytjjdjhehdobmnaa", sum := "903a111542d9fe1c8729e7927a5fbaf295bad507d30d9a9f52bd8bcf5b0a1222", func := "loop.example/g01004/laws.FnExactCubicDiscriminant", spec := "fnExactCubicDiscriminant", apart := false }
def FnExactCubicDiscriminantSaid : Prop := fnExactCubicDiscriminantRow.holds Try.pinned (OpenSpec.ofChange fnExactCubicDiscriminantSpec)

/-- ITS FALSE NEIGHBOUR: 'it returns false'. Refute it at one input. -/
def fnExactCubicDiscriminantWrong : ChangeSpec := { name := "fnExactCubicDiscriminant", fn := fun _ => fun
  | [d] => { results := [.lit (.bool false)], args := [d] }
  | _ => none }
def FnExactCubicDiscriminantWrongFalsely : Prop := fnExactCubicDiscriminantRow.holds Try.pinned (OpenSpec.ofChange fnExactCubicDiscriminantWrong)

/-- 'laws.FnExactRealRootCount': WHATEVER THE INPUT: true; the input reads as it did. -/
def fnExactRealRootCountSpec : ChangeSpec := { name := "fnExactRealRootCount", fn := fun _ => fun
  | [d] => { results := [.lit (.bool true)], args := [d] }
  | _ => none }
def fnExactRealRootCountRow : OpenClaim := { program := "ytjjdjhehdobmnaa", sum := "903a111542d9fe1c8729e7927a5fbaf295bad507d30d9a9f52bd8bcf5b0a1222", func := "loop.example/g01004/laws.FnExactRealRootCount", spec := "fnExactRealRootCount", apart := false }
def FnExactRealRootCountSaid : Prop := fnExactRealRootCountRow.holds Try.pinned (OpenSpec.ofChange fnExactRealRootCountSpec)

/-- ITS FALSE NEIGHBOUR: 'it returns false'. Refute it at one input. -/
def fnExactRealRootCountWrong : ChangeSpec := { name := "fnExactRealRootCount", fn := fun _ => fun
  | [d] => { results := [.lit (.bool false)], args := [d] }
  | _ => none }
def FnExactRealRootCountWrongFalsely : Prop := fnExactRealRootCountRow.holds Try.pinned (OpenSpec.ofChange fnExactRealRootCountWrong)

/-- 'laws.FnExactRootCells': WHATEVER THE INPUT: true; the input reads as it did. -/
def fnExactRootCellsSpec : ChangeSpec := { name := "fnExactRootCells", fn := fun _ => fun
  | [d] => { results := [.lit (.bool true)], args := [d] }
  | _ => none }
def fnExactRootCellsRow : OpenClaim := { program := "ytjjdjhehdobmnaa", sum := "903a111542d9fe1c8729e7927a5fbaf295bad507d30d9a9f52bd8bcf5b0a1222", func := "loop.example/g01004/laws.FnExactRootCells", spec := "fnExactRootCells", unfollowed := true, recurses := true, apart := false }
def FnExactRootCellsSaid : Prop := fnExactRootCellsRow.holds Try.pinned (OpenSpec.ofChange fnExactRootCellsSpec)

/-- ITS FALSE NEIGHBOUR: 'it returns false'. Refute it at one input. -/
def fnExactRootCellsWrong : ChangeSpec := { name := "fnExactRootCells", fn := fun _ => fun
  | [d] => { results := [.lit (.bool false)], args := [d] }
  | _ => none }
def FnExactRootCellsWrongFalsely : Prop := fnExactRootCellsRow.holds Try.pinned (OpenSpec.ofChange fnExactRootCellsWrong)

/-- 'laws.FnExactContentOf': WHATEVER THE INPUT: true; the input reads as it did. -/
def fnExactContentOfSpec : ChangeSpec := { name := "fnExactContentOf", fn := fun _ => fun
  | [d] => { results := [.lit (.bool true)], args := [d] }
  | _ => none }
def fnExactContentOfRow : OpenClaim := { program := "ytjjdjhehdobmnaa", sum := "903a111542d9fe1c8729e7927a5fbaf295bad507d30d9a9f52bd8bcf5b0a1222", func := "loop.example/g01004/laws.FnExactContentOf", spec := "fnExactContentOf", apart := false }
def FnExactContentOfSaid : Prop := fnExactContentOfRow.holds Try.pinned (OpenSpec.ofChange fnExactContentOfSpec)

/-- ITS FALSE NEIGHBOUR: 'it returns false'. Refute it at one input. -/
def fnExactContentOfWrong : ChangeSpec := { name := "fnExactContentOf", fn := fun _ => fun
  | [d] => { results := [.lit (.bool false)], args := [d] }
  | _ => none }
def FnExactContentOfWrongFalsely : Prop := fnExactContentOfRow.holds Try.pinned (OpenSpec.ofChange fnExactContentOfWrong)

/-- 'laws.FnExactShiftCubic': WHATEVER THE INPUT: true; the input reads as it did. -/
def fnExactShiftCubicSpec : ChangeSpec := { name := "fnExactShiftCubic", fn := fun _ => fun
  | [d1, d2] => { results := [.lit (.bool true)], args := [d1, d2] }
  | _ => none }
def fnExactShiftCubicRow : OpenClaim := { program := "ytjjdjhehdobmnaa", sum := "903a111542d9fe1c8729e7927a5fbaf295bad507d30d9a9f52bd8bcf5b0a1222", func := "loop.example/g01004/laws.FnExactShiftCubic", spec := "fnExactShiftCubic", unfollowed := true, recurses := true, apart := false }
def FnExactShiftCubicSaid : Prop := fnExactShiftCubicRow.holds Try.pinned (OpenSpec.ofChange fnExactShiftCubicSpec)

/-- ITS FALSE NEIGHBOUR: 'it returns false'. Refute it at one input. -/
def fnExactShiftCubicWrong : ChangeSpec := { name := "fnExactShiftCubic", fn := fun _ => fun
  | [d1, d2] => { results := [.lit (.bool false)], args := [d1, d2] }
  | _ => none }
def FnExactShiftCubicWrongFalsely : Prop := fnExactShiftCubicRow.holds Try.pinned (OpenSpec.ofChange fnExactShiftCubicWrong)

/-- 'laws.FnExactReverseCubic': WHATEVER THE INPUT: true; the input reads as it did. -/
def fnExactReverseCubicSpec : ChangeSpec := { name := "fnExactReverseCubic", fn := fun _ => fun
  | [d] => { results := [.lit (.bool true)], args := [d] }
  | _ => none }
def fnExactReverseCubicRow : OpenClaim := { program := "ytjjdjhehdobmnaa", sum := "903a111542d9fe1c8729e7927a5fbaf295bad507d30d9a9f52bd8bcf5b0a1222", func := "loop.example/g01004/laws.FnExactReverseCubic", spec := "fnExactReverseCubic", apart := false }
def FnExactReverseCubicSaid : Prop := fnExactReverseCubicRow.holds Try.pinned (OpenSpec.ofChange fnExactReverseCubicSpec)

/-- ITS FALSE NEIGHBOUR: 'it returns false'. Refute it at one input. -/
def fnExactReverseCubicWrong : ChangeSpec := { name := "fnExactReverseCubic", fn := fun _ => fun
  | [d] => { results := [.lit (.bool false)], args := [d] }
  | _ => none }
def FnExactReverseCubicWrongFalsely : Prop := fnExactReverseCubicRow.holds Try.pinned (OpenSpec.ofChange fnExactReverseCubicWrong)

/- THE SECOND FORM. 'bulk': how many values and letters a reading holds, each counted each time it is reached (what is shared counts as often as it is met; a slice's spare places count too). A statement '..UptoSaid' is the law's where the arguments, and the package variables that the reading takes, are together of bulk at most 1048576: NARROWER than '..Said'. Prove '..Said' where nothing that the law and all that it calls make is longer than what came in: it says more and counts as full. Else prove '..UptoSaid'. A law counts once. -/
mutual
def uptoBulk {H : Type} : DataW H → Nat
  | .lit (.string bytes) => bytes.length + 1
  | .lit _ => 1
  | .nil => 1
  | .ptr d => uptoBulk d + 1
  | .slice elems spare => uptoBulkAll elems + uptoBulkAll spare + 1
  | .agg parts => uptoBulkAll parts + 1
  | .iface _ d => uptoBulk d + 1
  | .map entries => uptoBulkEntries entries + 1
  | .held _ => 1
def uptoBulkAll {H : Type} : List (DataW H) → Nat
  | [] => 0
  | d :: r => uptoBulk d + uptoBulkAll r
def uptoBulkEntries {H : Type} : List (Lit × DataW H) → Nat
  | [] => 0
  | x :: r => uptoBulkEntry x + uptoBulkEntries r
def uptoBulkEntry {H : Type} : Lit × DataW H → Nat
  | (.string bytes, d) => bytes.length + uptoBulk d + 1
  | (_, d) => uptoBulk d + 1
 end
def uptoSmall : (H : Type) → List (DataW H) → Bool := fun _ ds => decide (uptoBulkAll ds ≤ 1048576)
def OpenSpec.upto (s : _root_.Go.ChangeSpec) : _root_.Go.OpenSpec := { _root_.Go.OpenSpec.ofChange s with cond := some uptoSmall }

/-- 'laws.FnExactIsCubic', WHERE WHAT IT READS IS OF BULK AT MOST 1048576: true; the input reads as it did. -/
def fnExactIsCubicUptoRow : OpenClaim := { program := "ytjjdjhehdobmnaa", sum := "903a111542d9fe1c8729e7927a5fbaf295bad507d30d9a9f52bd8bcf5b0a1222", func := "loop.example/g01004/laws.FnExactIsCubic", spec := "fnExactIsCubic", apart := false, narrowed := true }
def FnExactIsCubicUptoSaid : Prop := fnExactIsCubicUptoRow.holds Try.pinned (OpenSpec.upto fnExactIsCubicSpec)

/-- 'laws.FnExactCubicAt', WHERE WHAT IT READS IS OF BULK AT MOST 1048576: true; the input reads as it did. -/
def fnExactCubicAtUptoRow : OpenClaim := { program := "ytjjdjhehdobmnaa", sum := "903a111542d9fe1c8729e7927a5fbaf295bad507d30d9a9f52bd8bcf5b0a1222", func := "loop.example/g01004/laws.FnExactCubicAt", spec := "fnExactCubicAt", unfollowed := true, recurses := true, apart := false, narrowed := true }
def FnExactCubicAtUptoSaid : Prop := fnExactCubicAtUptoRow.holds Try.pinned (OpenSpec.upto fnExactCubicAtSpec)

/-- 'laws.FnExactCubicDiscriminant', WHERE WHAT IT READS IS OF BULK AT MOST 1048576: true; the input reads as it did. -/
def fnExactCubicDiscriminantUptoRow : OpenClaim := { program := "ytjjdjhehdobmnaa", sum := "903a111542d9fe1c8729e7927a5fbaf295bad507d30d9a9f52bd8bcf5b0a1222", func := "loop.example/g01004/laws.FnExactCubicDiscriminant", spec := "fnExactCubicDiscriminant", apart := false, narrowed := true }
def FnExactCubicDiscriminantUptoSaid : Prop := fnExactCubicDiscriminantUptoRow.holds Try.pinned (OpenSpec.upto fnExactCubicDiscriminantSpec)

/-- 'laws.FnExactRealRootCount', WHERE WHAT IT READS IS OF BULK AT MOST 1048576: true; the input reads as it did. -/
def fnExactRealRootCountUptoRow : OpenClaim := { program := "ytjjdjhehdobmnaa", sum := "903a111542d9fe1c8729e7927a5fbaf295bad507d30d9a9f52bd8bcf5b0a1222", func := "loop.example/g01004/laws.FnExactRealRootCount", spec := "fnExactRealRootCount", apart := false, narrowed := true }
def FnExactRealRootCountUptoSaid : Prop := fnExactRealRootCountUptoRow.holds Try.pinned (OpenSpec.upto fnExactRealRootCountSpec)

/-- 'laws.FnExactRootCells', WHERE WHAT IT READS IS OF BULK AT MOST 1048576: true; the input reads as it did. -/
def fnExactRootCellsUptoRow : OpenClaim := { program := "ytjjdjhehdobmnaa", sum := "903a111542d9fe1c8729e7927a5fbaf295bad507d30d9a9f52bd8bcf5b0a1222", func := "loop.example/g01004/laws.FnExactRootCells", spec := "fnExactRootCells", unfollowed := true, recurses := true, apart := false, narrowed := true }
def FnExactRootCellsUptoSaid : Prop := fnExactRootCellsUptoRow.holds Try.pinned (OpenSpec.upto fnExactRootCellsSpec)

/-- 'laws.FnExactContentOf', WHERE WHAT IT READS IS OF BULK AT MOST 1048576: true; the input reads as it did. -/
def fnExactContentOfUptoRow : OpenClaim := { program := "ytjjdjhehdobmnaa", sum := "903a111542d9fe1c8729e7927a5fbaf295bad507d30d9a9f52bd8bcf5b0a1222", func := "loop.example/g01004/laws.FnExactContentOf", spec := "fnExactContentOf", apart := false, narrowed := true }
def FnExactContentOfUptoSaid : Prop := fnExactContentOfUptoRow.holds Try.pinned (OpenSpec.upto fnExactContentOfSpec)

/-- 'laws.FnExactShiftCubic', WHERE WHAT IT READS IS OF BULK AT MOST 1048576: true; the input reads as it did. -/
def fnExactShiftCubicUptoRow : OpenClaim := { program := "ytjjdjhehdobmnaa", sum := "903a111542d9fe1c8729e7927a5fbaf295bad507d30d9a9f52bd8bcf5b0a1222", func := "loop.example/g01004/laws.FnExactShiftCubic", spec := "fnExactShiftCubic", unfollowed := true, recurses := true, apart := false, narrowed := true }
def FnExactShiftCubicUptoSaid : Prop := fnExactShiftCubicUptoRow.holds Try.pinned (OpenSpec.upto fnExactShiftCubicSpec)

/-- 'laws.FnExactReverseCubic', WHERE WHAT IT READS IS OF BULK AT MOST 1048576: true; the input reads as it did. -/
def fnExactReverseCubicUptoRow : OpenClaim := { program := "ytjjdjhehdobmnaa", sum := "903a111542d9fe1c8729e7927a5fbaf295bad507d30d9a9f52bd8bcf5b0a1222", func := "loop.example/g01004/laws.FnExactReverseCubic", spec := "fnExactReverseCubic", apart := false, narrowed := true }
def FnExactReverseCubicUptoSaid : Prop := fnExactReverseCubicUptoRow.holds Try.pinned (OpenSpec.upto fnExactReverseCubicSpec)

end Rows
end Go.Proofs.Ytjjdjhehdobmnaa
