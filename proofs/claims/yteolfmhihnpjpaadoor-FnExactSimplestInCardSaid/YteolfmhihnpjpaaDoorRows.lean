/-
  NARROWER THAN 'FOR EVERY INPUT', by the rows' own cells (each row's printed sentence says how): FnExactIsFraction: laid · FnExactFractionOf: laid · FnExactSumOf: laid · FnExactDifferenceOf: laid · FnExactProductOf: laid · FnExactQuotientOf: laid · FnExactIsLess: laid · FnExactFloorAndRest: laid · FnExactFractionHeight: laid · FnExactSquareRootOf: laid · FnExactSimplestIn: laid · FnFractions: laid.
  DERIVED. THE GIVEN ROWS OF THIS SEAT. 12 by the template 'for every input the law returns true; each argument reads behind the call as it read before'; 0 by the template 'total and deterministic' (their statements: YteolfmhihnpjpaaDoorTotals.lean).
  GIVEN WITH THE SEED: the statements are not yours to turn. If you find one false, say at which input.
  Laid BY PROGRAM, IN A SANDBOX (cutbox-rows.mjs): the forced cells as the released guide's own fill.sh prints them over the translation abff7d90dd0afeed… (all of the seat's roots in one cut). By AI agents, Wed Nov 11 2026. No macro, syntax, notation, axiom, sorry.
-/
import Derived.Test.YteolfmhihnpjpaaDoorChecked
import GoSem.Claim
import GoSem.ClaimJoined
import GoSem.ClaimMapViews
import Derived.JoinedTies
import Derived.KernelRfl
namespace Go.Proofs.YteolfmhihnpjpaaDoor
/- THE CELL 'sum', in the pinned program and in every row, IS THE sha256 OF THE DUMP (.gsa) THAT YteolfmhihnpjpaaDoorProg.lean LOADS. Nothing in Lean hashes anything: it is a label: what it is worth is what the hold of that sum in a sandbox is worth. -/
noncomputable def Tryd.pinned : Pinned := { name := "yteolfmhihnpjpaadoor", sum := "abff7d90dd0afeed089e0bae4e4a5abaf5c3767f39103a18530ae48346ac7337", checked := Tryd.checked }
namespace Rows
def none {H : Type} : Left H := { results := [], args := [] }

/- WHAT THE LISTED PACKAGE-LEVEL VARIABLES READ AS WHEN THE CALL BEGINS. Each datum BY PROGRAM (the guide's laid-datum.mjs) off the statement by which the dump's own 'gosem.cut.vars' lays the variable. In a bare row this is a premise. The card (YteolfmhihnpjpaaDoorCards.lean) ties it to the program's text. -/
def laid_loop_example_g01004_impl_limits {H : Type} : DataW H := .agg [.lit (.int .i64 1000000000), .lit (.int .i64 1000000000000000000), .lit (.int .i64 1000)]

/-- 'laws.FnExactIsFraction': WHATEVER THE INPUT: true; the input reads as it did. -/
def fnExactIsFractionSpec : ChangeSpec := { name := "fnExactIsFraction", vars := ["loop.example/g01004/impl.limits"], fn := fun _ => fun
  | [d, g1] => { results := [.lit (.bool true)], args := [d], vars := [g1] }
  | _ => none }
def fnExactIsFractionRow : OpenClaim := { program := "yteolfmhihnpjpaadoor", sum := "abff7d90dd0afeed089e0bae4e4a5abaf5c3767f39103a18530ae48346ac7337", func := "loop.example/g01004/laws.FnExactIsFraction", spec := "fnExactIsFraction", named := ["loop.example/g01004/impl.limits"], apart := false, laid := [("loop.example/g01004/impl.limits", laid_loop_example_g01004_impl_limits)] }
def FnExactIsFractionSaid : Prop := fnExactIsFractionRow.holds Tryd.pinned (OpenSpec.ofChange fnExactIsFractionSpec)

/-- ITS FALSE NEIGHBOUR: 'it returns false'. Refute it at one input. -/
def fnExactIsFractionWrong : ChangeSpec := { name := "fnExactIsFraction", vars := ["loop.example/g01004/impl.limits"], fn := fun _ => fun
  | [d, g1] => { results := [.lit (.bool false)], args := [d], vars := [g1] }
  | _ => none }
def FnExactIsFractionWrongFalsely : Prop := fnExactIsFractionRow.holds Tryd.pinned (OpenSpec.ofChange fnExactIsFractionWrong)

/-- 'laws.FnExactFractionOf': WHATEVER THE INPUT: true; the input reads as it did. -/
def fnExactFractionOfSpec : ChangeSpec := { name := "fnExactFractionOf", vars := ["loop.example/g01004/impl.limits"], fn := fun _ => fun
  | [d1, d2, g1] => { results := [.lit (.bool true)], args := [d1, d2], vars := [g1] }
  | _ => none }
def fnExactFractionOfRow : OpenClaim := { program := "yteolfmhihnpjpaadoor", sum := "abff7d90dd0afeed089e0bae4e4a5abaf5c3767f39103a18530ae48346ac7337", func := "loop.example/g01004/laws.FnExactFractionOf", spec := "fnExactFractionOf", named := ["loop.example/g01004/impl.limits"], apart := false, laid := [("loop.example/g01004/impl.limits", laid_loop_example_g01004_impl_limits)] }
def FnExactFractionOfSaid : Prop := fnExactFractionOfRow.holds Tryd.pinned (OpenSpec.ofChange fnExactFractionOfSpec)

/-- ITS FALSE NEIGHBOUR: 'it returns false'. Refute it at one input. -/
def fnExactFractionOfWrong : ChangeSpec := { name := "fnExactFractionOf", vars := ["loop.example/g01004/impl.limits"], fn := fun _ => fun
  | [d1, d2, g1] => { results := [.lit (.bool false)], args := [d1, d2], vars := [g1] }
  | _ => none }
def FnExactFractionOfWrongFalsely : Prop := fnExactFractionOfRow.holds Tryd.pinned (OpenSpec.ofChange fnExactFractionOfWrong)

/-- 'laws.FnExactSumOf': WHATEVER THE INPUT: true; the input reads as it did. -/
def fnExactSumOfSpec : ChangeSpec := { name := "fnExactSumOf", vars := ["loop.example/g01004/impl.limits"], fn := fun _ => fun
  | [d1, d2, g1] => { results := [.lit (.bool true)], args := [d1, d2], vars := [g1] }
  | _ => none }
def fnExactSumOfRow : OpenClaim := { program := "yteolfmhihnpjpaadoor", sum := "abff7d90dd0afeed089e0bae4e4a5abaf5c3767f39103a18530ae48346ac7337", func := "loop.example/g01004/laws.FnExactSumOf", spec := "fnExactSumOf", named := ["loop.example/g01004/impl.limits"], apart := false, laid := [("loop.example/g01004/impl.limits", laid_loop_example_g01004_impl_limits)] }
def FnExactSumOfSaid : Prop := fnExactSumOfRow.holds Tryd.pinned (OpenSpec.ofChange fnExactSumOfSpec)

/-- ITS FALSE NEIGHBOUR: 'it returns false'. Refute it at one input. -/
def fnExactSumOfWrong : ChangeSpec := { name := "fnExactSumOf", vars := ["loop.example/g01004/impl.limits"], fn := fun _ => fun
  | [d1, d2, g1] => { results := [.lit (.bool false)], args := [d1, d2], vars := [g1] }
  | _ => none }
def FnExactSumOfWrongFalsely : Prop := fnExactSumOfRow.holds Tryd.pinned (OpenSpec.ofChange fnExactSumOfWrong)

/-- 'laws.FnExactDifferenceOf': WHATEVER THE INPUT: true; the input reads as it did. -/
def fnExactDifferenceOfSpec : ChangeSpec := { name := "fnExactDifferenceOf", vars := ["loop.example/g01004/impl.limits"], fn := fun _ => fun
  | [d1, d2, g1] => { results := [.lit (.bool true)], args := [d1, d2], vars := [g1] }
  | _ => none }
def fnExactDifferenceOfRow : OpenClaim := { program := "yteolfmhihnpjpaadoor", sum := "abff7d90dd0afeed089e0bae4e4a5abaf5c3767f39103a18530ae48346ac7337", func := "loop.example/g01004/laws.FnExactDifferenceOf", spec := "fnExactDifferenceOf", named := ["loop.example/g01004/impl.limits"], apart := false, laid := [("loop.example/g01004/impl.limits", laid_loop_example_g01004_impl_limits)] }
def FnExactDifferenceOfSaid : Prop := fnExactDifferenceOfRow.holds Tryd.pinned (OpenSpec.ofChange fnExactDifferenceOfSpec)

/-- ITS FALSE NEIGHBOUR: 'it returns false'. Refute it at one input. -/
def fnExactDifferenceOfWrong : ChangeSpec := { name := "fnExactDifferenceOf", vars := ["loop.example/g01004/impl.limits"], fn := fun _ => fun
  | [d1, d2, g1] => { results := [.lit (.bool false)], args := [d1, d2], vars := [g1] }
  | _ => none }
def FnExactDifferenceOfWrongFalsely : Prop := fnExactDifferenceOfRow.holds Tryd.pinned (OpenSpec.ofChange fnExactDifferenceOfWrong)

/-- 'laws.FnExactProductOf': WHATEVER THE INPUT: true; the input reads as it did. -/
def fnExactProductOfSpec : ChangeSpec := { name := "fnExactProductOf", vars := ["loop.example/g01004/impl.limits"], fn := fun _ => fun
  | [d1, d2, g1] => { results := [.lit (.bool true)], args := [d1, d2], vars := [g1] }
  | _ => none }
def fnExactProductOfRow : OpenClaim := { program := "yteolfmhihnpjpaadoor", sum := "abff7d90dd0afeed089e0bae4e4a5abaf5c3767f39103a18530ae48346ac7337", func := "loop.example/g01004/laws.FnExactProductOf", spec := "fnExactProductOf", named := ["loop.example/g01004/impl.limits"], apart := false, laid := [("loop.example/g01004/impl.limits", laid_loop_example_g01004_impl_limits)] }
def FnExactProductOfSaid : Prop := fnExactProductOfRow.holds Tryd.pinned (OpenSpec.ofChange fnExactProductOfSpec)

/-- ITS FALSE NEIGHBOUR: 'it returns false'. Refute it at one input. -/
def fnExactProductOfWrong : ChangeSpec := { name := "fnExactProductOf", vars := ["loop.example/g01004/impl.limits"], fn := fun _ => fun
  | [d1, d2, g1] => { results := [.lit (.bool false)], args := [d1, d2], vars := [g1] }
  | _ => none }
def FnExactProductOfWrongFalsely : Prop := fnExactProductOfRow.holds Tryd.pinned (OpenSpec.ofChange fnExactProductOfWrong)

/-- 'laws.FnExactQuotientOf': WHATEVER THE INPUT: true; the input reads as it did. -/
def fnExactQuotientOfSpec : ChangeSpec := { name := "fnExactQuotientOf", vars := ["loop.example/g01004/impl.limits"], fn := fun _ => fun
  | [d1, d2, g1] => { results := [.lit (.bool true)], args := [d1, d2], vars := [g1] }
  | _ => none }
def fnExactQuotientOfRow : OpenClaim := { program := "yteolfmhihnpjpaadoor", sum := "abff7d90dd0afeed089e0bae4e4a5abaf5c3767f39103a18530ae48346ac7337", func := "loop.example/g01004/laws.FnExactQuotientOf", spec := "fnExactQuotientOf", named := ["loop.example/g01004/impl.limits"], apart := false, laid := [("loop.example/g01004/impl.limits", laid_loop_example_g01004_impl_limits)] }
def FnExactQuotientOfSaid : Prop := fnExactQuotientOfRow.holds Tryd.pinned (OpenSpec.ofChange fnExactQuotientOfSpec)

/-- ITS FALSE NEIGHBOUR: 'it returns false'. Refute it at one input. -/
def fnExactQuotientOfWrong : ChangeSpec := { name := "fnExactQuotientOf", vars := ["loop.example/g01004/impl.limits"], fn := fun _ => fun
  | [d1, d2, g1] => { results := [.lit (.bool false)], args := [d1, d2], vars := [g1] }
  | _ => none }
def FnExactQuotientOfWrongFalsely : Prop := fnExactQuotientOfRow.holds Tryd.pinned (OpenSpec.ofChange fnExactQuotientOfWrong)

/-- 'laws.FnExactIsLess': WHATEVER THE INPUT: true; the input reads as it did. -/
def fnExactIsLessSpec : ChangeSpec := { name := "fnExactIsLess", vars := ["loop.example/g01004/impl.limits"], fn := fun _ => fun
  | [d1, d2, g1] => { results := [.lit (.bool true)], args := [d1, d2], vars := [g1] }
  | _ => none }
def fnExactIsLessRow : OpenClaim := { program := "yteolfmhihnpjpaadoor", sum := "abff7d90dd0afeed089e0bae4e4a5abaf5c3767f39103a18530ae48346ac7337", func := "loop.example/g01004/laws.FnExactIsLess", spec := "fnExactIsLess", named := ["loop.example/g01004/impl.limits"], apart := false, laid := [("loop.example/g01004/impl.limits", laid_loop_example_g01004_impl_limits)] }
def FnExactIsLessSaid : Prop := fnExactIsLessRow.holds Tryd.pinned (OpenSpec.ofChange fnExactIsLessSpec)

/-- ITS FALSE NEIGHBOUR: 'it returns false'. Refute it at one input. -/
def fnExactIsLessWrong : ChangeSpec := { name := "fnExactIsLess", vars := ["loop.example/g01004/impl.limits"], fn := fun _ => fun
  | [d1, d2, g1] => { results := [.lit (.bool false)], args := [d1, d2], vars := [g1] }
  | _ => none }
def FnExactIsLessWrongFalsely : Prop := fnExactIsLessRow.holds Tryd.pinned (OpenSpec.ofChange fnExactIsLessWrong)

/-- 'laws.FnExactFloorAndRest': WHATEVER THE INPUT: true; the input reads as it did. -/
def fnExactFloorAndRestSpec : ChangeSpec := { name := "fnExactFloorAndRest", vars := ["loop.example/g01004/impl.limits"], fn := fun _ => fun
  | [d, g1] => { results := [.lit (.bool true)], args := [d], vars := [g1] }
  | _ => none }
def fnExactFloorAndRestRow : OpenClaim := { program := "yteolfmhihnpjpaadoor", sum := "abff7d90dd0afeed089e0bae4e4a5abaf5c3767f39103a18530ae48346ac7337", func := "loop.example/g01004/laws.FnExactFloorAndRest", spec := "fnExactFloorAndRest", named := ["loop.example/g01004/impl.limits"], apart := false, laid := [("loop.example/g01004/impl.limits", laid_loop_example_g01004_impl_limits)] }
def FnExactFloorAndRestSaid : Prop := fnExactFloorAndRestRow.holds Tryd.pinned (OpenSpec.ofChange fnExactFloorAndRestSpec)

/-- ITS FALSE NEIGHBOUR: 'it returns false'. Refute it at one input. -/
def fnExactFloorAndRestWrong : ChangeSpec := { name := "fnExactFloorAndRest", vars := ["loop.example/g01004/impl.limits"], fn := fun _ => fun
  | [d, g1] => { results := [.lit (.bool false)], args := [d], vars := [g1] }
  | _ => none }
def FnExactFloorAndRestWrongFalsely : Prop := fnExactFloorAndRestRow.holds Tryd.pinned (OpenSpec.ofChange fnExactFloorAndRestWrong)

/-- 'laws.FnExactFractionHeight': WHATEVER THE INPUT: true; the input reads as it did. -/
def fnExactFractionHeightSpec : ChangeSpec := { name := "fnExactFractionHeight", vars := ["loop.example/g01004/impl.limits"], fn := fun _ => fun
  | [d, g1] => { results := [.lit (.bool true)], args := [d], vars := [g1] }
  | _ => none }
def fnExactFractionHeightRow : OpenClaim := { program := "yteolfmhihnpjpaadoor", sum := "abff7d90dd0afeed089e0bae4e4a5abaf5c3767f39103a18530ae48346ac7337", func := "loop.example/g01004/laws.FnExactFractionHeight", spec := "fnExactFractionHeight", named := ["loop.example/g01004/impl.limits"], apart := false, laid := [("loop.example/g01004/impl.limits", laid_loop_example_g01004_impl_limits)] }
def FnExactFractionHeightSaid : Prop := fnExactFractionHeightRow.holds Tryd.pinned (OpenSpec.ofChange fnExactFractionHeightSpec)

/-- ITS FALSE NEIGHBOUR: 'it returns false'. Refute it at one input. -/
def fnExactFractionHeightWrong : ChangeSpec := { name := "fnExactFractionHeight", vars := ["loop.example/g01004/impl.limits"], fn := fun _ => fun
  | [d, g1] => { results := [.lit (.bool false)], args := [d], vars := [g1] }
  | _ => none }
def FnExactFractionHeightWrongFalsely : Prop := fnExactFractionHeightRow.holds Tryd.pinned (OpenSpec.ofChange fnExactFractionHeightWrong)

/-- 'laws.FnExactSquareRootOf': WHATEVER THE INPUT: true; the input reads as it did. -/
def fnExactSquareRootOfSpec : ChangeSpec := { name := "fnExactSquareRootOf", vars := ["loop.example/g01004/impl.limits"], fn := fun _ => fun
  | [d, g1] => { results := [.lit (.bool true)], args := [d], vars := [g1] }
  | _ => none }
def fnExactSquareRootOfRow : OpenClaim := { program := "yteolfmhihnpjpaadoor", sum := "abff7d90dd0afeed089e0bae4e4a5abaf5c3767f39103a18530ae48346ac7337", func := "loop.example/g01004/laws.FnExactSquareRootOf", spec := "fnExactSquareRootOf", named := ["loop.example/g01004/impl.limits"], apart := false, laid := [("loop.example/g01004/impl.limits", laid_loop_example_g01004_impl_limits)] }
def FnExactSquareRootOfSaid : Prop := fnExactSquareRootOfRow.holds Tryd.pinned (OpenSpec.ofChange fnExactSquareRootOfSpec)

/-- ITS FALSE NEIGHBOUR: 'it returns false'. Refute it at one input. -/
def fnExactSquareRootOfWrong : ChangeSpec := { name := "fnExactSquareRootOf", vars := ["loop.example/g01004/impl.limits"], fn := fun _ => fun
  | [d, g1] => { results := [.lit (.bool false)], args := [d], vars := [g1] }
  | _ => none }
def FnExactSquareRootOfWrongFalsely : Prop := fnExactSquareRootOfRow.holds Tryd.pinned (OpenSpec.ofChange fnExactSquareRootOfWrong)

/-- 'laws.FnExactSimplestIn': WHATEVER THE INPUT: true; the input reads as it did. -/
def fnExactSimplestInSpec : ChangeSpec := { name := "fnExactSimplestIn", vars := ["loop.example/g01004/impl.limits"], fn := fun _ => fun
  | [d1, d2, g1] => { results := [.lit (.bool true)], args := [d1, d2], vars := [g1] }
  | _ => none }
def fnExactSimplestInRow : OpenClaim := { program := "yteolfmhihnpjpaadoor", sum := "abff7d90dd0afeed089e0bae4e4a5abaf5c3767f39103a18530ae48346ac7337", func := "loop.example/g01004/laws.FnExactSimplestIn", spec := "fnExactSimplestIn", named := ["loop.example/g01004/impl.limits"], apart := false, laid := [("loop.example/g01004/impl.limits", laid_loop_example_g01004_impl_limits)] }
def FnExactSimplestInSaid : Prop := fnExactSimplestInRow.holds Tryd.pinned (OpenSpec.ofChange fnExactSimplestInSpec)

/-- ITS FALSE NEIGHBOUR: 'it returns false'. Refute it at one input. -/
def fnExactSimplestInWrong : ChangeSpec := { name := "fnExactSimplestIn", vars := ["loop.example/g01004/impl.limits"], fn := fun _ => fun
  | [d1, d2, g1] => { results := [.lit (.bool false)], args := [d1, d2], vars := [g1] }
  | _ => none }
def FnExactSimplestInWrongFalsely : Prop := fnExactSimplestInRow.holds Tryd.pinned (OpenSpec.ofChange fnExactSimplestInWrong)

/-- 'laws.FnFractions': WHATEVER THE INPUT: true; the input reads as it did. -/
def fnFractionsSpec : ChangeSpec := { name := "fnFractions", vars := ["loop.example/g01004/impl.limits"], fn := fun _ => fun
  | [d1, d2, g1] => { results := [.lit (.bool true)], args := [d1, d2], vars := [g1] }
  | _ => none }
def fnFractionsRow : OpenClaim := { program := "yteolfmhihnpjpaadoor", sum := "abff7d90dd0afeed089e0bae4e4a5abaf5c3767f39103a18530ae48346ac7337", func := "loop.example/g01004/laws.FnFractions", spec := "fnFractions", named := ["loop.example/g01004/impl.limits"], apart := false, laid := [("loop.example/g01004/impl.limits", laid_loop_example_g01004_impl_limits)] }
def FnFractionsSaid : Prop := fnFractionsRow.holds Tryd.pinned (OpenSpec.ofChange fnFractionsSpec)

/-- ITS FALSE NEIGHBOUR: 'it returns false'. Refute it at one input. -/
def fnFractionsWrong : ChangeSpec := { name := "fnFractions", vars := ["loop.example/g01004/impl.limits"], fn := fun _ => fun
  | [d1, d2, g1] => { results := [.lit (.bool false)], args := [d1, d2], vars := [g1] }
  | _ => none }
def FnFractionsWrongFalsely : Prop := fnFractionsRow.holds Tryd.pinned (OpenSpec.ofChange fnFractionsWrong)

/- THE SECOND FORM. 'bulk': how many values and letters a reading holds, each counted each time it is reached (what is shared counts as often as it is met; a slice's spare places count too). A statement '..UptoSaid' is the law's where the arguments, and the package variables that the reading takes, are together of bulk at most 1048576: NARROWER than '..Said'. Prove '..Said' where nothing that the law and all that it calls make is longer than what came in: it says more and counts as full. Else prove '..UptoSaid'. A law counts once. -/
mutual
def uptoBulk {H : Type} : DataW H → Nat
  | .lit (.string bytes) => bytes.length + 1
  | .lit _ => 1
  | .nil => 1
  | .ptr d => uptoBulk d + 1
  | .slice elems spare => uptoBulkAll elems + uptoBulkAll spare + 1
  | .agg parts => uptoBulkAll parts + 1
  | .iface _ d => uptoBulk d + 1
  | .map entries => uptoBulkEntries entries + 1
  | .held _ => 1
def uptoBulkAll {H : Type} : List (DataW H) → Nat
  | [] => 0
  | d :: r => uptoBulk d + uptoBulkAll r
def uptoBulkEntries {H : Type} : List (Lit × DataW H) → Nat
  | [] => 0
  | x :: r => uptoBulkEntry x + uptoBulkEntries r
def uptoBulkEntry {H : Type} : Lit × DataW H → Nat
  | (.string bytes, d) => bytes.length + uptoBulk d + 1
  | (_, d) => uptoBulk d + 1
 end
def uptoSmall : (H : Type) → List (DataW H) → Bool := fun _ ds => decide (uptoBulkAll ds ≤ 1048576)
def OpenSpec.upto (s : _root_.Go.ChangeSpec) : _root_.Go.OpenSpec := { _root_.Go.OpenSpec.ofChange s with cond := some uptoSmall }

/-- 'laws.FnExactIsFraction', WHERE WHAT IT READS IS OF BULK AT MOST 1048576: true; the input reads as it did. -/
def fnExactIsFractionUptoRow : OpenClaim := { program := "yteolfmhihnpjpaadoor", sum := "abff7d90dd0afeed089e0bae4e4a5abaf5c3767f39103a18530ae48346ac7337", func := "loop.example/g01004/laws.FnExactIsFraction", spec := "fnExactIsFraction", named := ["loop.example/g01004/impl.limits"], apart := false, laid := [("loop.example/g01004/impl.limits", laid_loop_example_g01004_impl_limits)], narrowed := true }
def FnExactIsFractionUptoSaid : Prop := fnExactIsFractionUptoRow.holds Tryd.pinned (OpenSpec.upto fnExactIsFractionSpec)

/-- 'laws.FnExactFractionOf', WHERE WHAT IT READS IS OF BULK AT MOST 1048576: true; the input reads as it did. -/
def fnExactFractionOfUptoRow : OpenClaim := { program := "yteolfmhihnpjpaadoor", sum := "abff7d90dd0afeed089e0bae4e4a5abaf5c3767f39103a18530ae48346ac7337", func := "loop.example/g01004/laws.FnExactFractionOf", spec := "fnExactFractionOf", named := ["loop.example/g01004/impl.limits"], apart := false, laid := [("loop.example/g01004/impl.limits", laid_loop_example_g01004_impl_limits)], narrowed := true }
def FnExactFractionOfUptoSaid : Prop := fnExactFractionOfUptoRow.holds Tryd.pinned (OpenSpec.upto fnExactFractionOfSpec)

/-- 'laws.FnExactSumOf', WHERE WHAT IT READS IS OF BULK AT MOST 1048576: true; the input reads as it did. -/
def fnExactSumOfUptoRow : OpenClaim := { program := "yteolfmhihnpjpaadoor", sum := "abff7d90dd0afeed089e0bae4e4a5abaf5c3767f39103a18530ae48346ac7337", func := "loop.example/g01004/laws.FnExactSumOf", spec := "fnExactSumOf", named := ["loop.example/g01004/impl.limits"], apart := false, laid := [("loop.example/g01004/impl.limits", laid_loop_example_g01004_impl_limits)], narrowed := true }
def FnExactSumOfUptoSaid : Prop := fnExactSumOfUptoRow.holds Tryd.pinned (OpenSpec.upto fnExactSumOfSpec)

/-- 'laws.FnExactDifferenceOf', WHERE WHAT IT READS IS OF BULK AT MOST 1048576: true; the input reads as it did. -/
def fnExactDifferenceOfUptoRow : OpenClaim := { program := "yteolfmhihnpjpaadoor", sum := "abff7d90dd0afeed089e0bae4e4a5abaf5c3767f39103a18530ae48346ac7337", func := "loop.example/g01004/laws.FnExactDifferenceOf", spec := "fnExactDifferenceOf", named := ["loop.example/g01004/impl.limits"], apart := false, laid := [("loop.example/g01004/impl.limits", laid_loop_example_g01004_impl_limits)], narrowed := true }
def FnExactDifferenceOfUptoSaid : Prop := fnExactDifferenceOfUptoRow.holds Tryd.pinned (OpenSpec.upto fnExactDifferenceOfSpec)

/-- 'laws.FnExactProductOf', WHERE WHAT IT READS IS OF BULK AT MOST 1048576: true; the input reads as it did. -/
def fnExactProductOfUptoRow : OpenClaim := { program := "yteolfmhihnpjpaadoor", sum := "abff7d90dd0afeed089e0bae4e4a5abaf5c3767f39103a18530ae48346ac7337", func := "loop.example/g01004/laws.FnExactProductOf", spec := "fnExactProductOf", named := ["loop.example/g01004/impl.limits"], apart := false, laid := [("loop.example/g01004/impl.limits", laid_loop_example_g01004_impl_limits)], narrowed := true }
def FnExactProductOfUptoSaid : Prop := fnExactProductOfUptoRow.holds Tryd.pinned (OpenSpec.upto fnExactProductOfSpec)

/-- 'laws.FnExactQuotientOf', WHERE WHAT IT READS IS OF BULK AT MOST 1048576: true; the input reads as it did. -/
def fnExactQuotientOfUptoRow : OpenClaim := { program := "yteolfmhihnpjpaadoor", sum := "abff7d90dd0afeed089e0bae4e4a5abaf5c3767f39103a18530ae48346ac7337", func := "loop.example/g01004/laws.FnExactQuotientOf", spec := "fnExactQuotientOf", named := ["loop.example/g01004/impl.limits"], apart := false, laid := [("loop.example/g01004/impl.limits", laid_loop_example_g01004_impl_limits)], narrowed := true }
def FnExactQuotientOfUptoSaid : Prop := fnExactQuotientOfUptoRow.holds Tryd.pinned (OpenSpec.upto fnExactQuotientOfSpec)

/-- 'laws.FnExactIsLess', WHERE WHAT IT READS IS OF BULK AT MOST 1048576: true; the input reads as it did. -/
def fnExactIsLessUptoRow : OpenClaim := { program := "yteolfmhihnpjpaadoor", sum := "abff7d90dd0afeed089e0bae4e4a5abaf5c3767f39103a18530ae48346ac7337", func := "loop.example/g01004/laws.FnExactIsLess", spec := "fnExactIsLess", named := ["loop.example/g01004/impl.limits"], apart := false, laid := [("loop.example/g01004/impl.limits", laid_loop_example_g01004_impl_limits)], narrowed := true }
def FnExactIsLessUptoSaid : Prop := fnExactIsLessUptoRow.holds Tryd.pinned (OpenSpec.upto fnExactIsLessSpec)

/-- 'laws.FnExactFloorAndRest', WHERE WHAT IT READS IS OF BULK AT MOST 1048576: true; the input reads as it did. -/
def fnExactFloorAndRestUptoRow : OpenClaim := { program := "yteolfmhihnpjpaadoor", sum := "abff7d90dd0afeed089e0bae4e4a5abaf5c3767f39103a18530ae48346ac7337", func := "loop.example/g01004/laws.FnExactFloorAndRest", spec := "fnExactFloorAndRest", named := ["loop.example/g01004/impl.limits"], apart := false, laid := [("loop.example/g01004/impl.limits", laid_loop_example_g01004_impl_limits)], narrowed := true }
def FnExactFloorAndRestUptoSaid : Prop := fnExactFloorAndRestUptoRow.holds Tryd.pinned (OpenSpec.upto fnExactFloorAndRestSpec)

/-- 'laws.FnExactFractionHeight', WHERE WHAT IT READS IS OF BULK AT MOST 1048576: true; the input reads as it did. -/
def fnExactFractionHeightUptoRow : OpenClaim := { program := "yteolfmhihnpjpaadoor", sum := "abff7d90dd0afeed089e0bae4e4a5abaf5c3767f39103a18530ae48346ac7337", func := "loop.example/g01004/laws.FnExactFractionHeight", spec := "fnExactFractionHeight", named := ["loop.example/g01004/impl.limits"], apart := false, laid := [("loop.example/g01004/impl.limits", laid_loop_example_g01004_impl_limits)], narrowed := true }
def FnExactFractionHeightUptoSaid : Prop := fnExactFractionHeightUptoRow.holds Tryd.pinned (OpenSpec.upto fnExactFractionHeightSpec)

/-- 'laws.FnExactSquareRootOf', WHERE WHAT IT READS IS OF BULK AT MOST 1048576: true; the input reads as it did. -/
def fnExactSquareRootOfUptoRow : OpenClaim := { program := "yteolfmhihnpjpaadoor", sum := "abff7d90dd0afeed089e0bae4e4a5abaf5c3767f39103a18530ae48346ac7337", func := "loop.example/g01004/laws.FnExactSquareRootOf", spec := "fnExactSquareRootOf", named := ["loop.example/g01004/impl.limits"], apart := false, laid := [("loop.example/g01004/impl.limits", laid_loop_example_g01004_impl_limits)], narrowed := true }
def FnExactSquareRootOfUptoSaid : Prop := fnExactSquareRootOfUptoRow.holds Tryd.pinned (OpenSpec.upto fnExactSquareRootOfSpec)

/-- 'laws.FnExactSimplestIn', WHERE WHAT IT READS IS OF BULK AT MOST 1048576: true; the input reads as it did. -/
def fnExactSimplestInUptoRow : OpenClaim := { program := "yteolfmhihnpjpaadoor", sum := "abff7d90dd0afeed089e0bae4e4a5abaf5c3767f39103a18530ae48346ac7337", func := "loop.example/g01004/laws.FnExactSimplestIn", spec := "fnExactSimplestIn", named := ["loop.example/g01004/impl.limits"], apart := false, laid := [("loop.example/g01004/impl.limits", laid_loop_example_g01004_impl_limits)], narrowed := true }
def FnExactSimplestInUptoSaid : Prop := fnExactSimplestInUptoRow.holds Tryd.pinned (OpenSpec.upto fnExactSimplestInSpec)

/-- 'laws.FnFractions', WHERE WHAT IT READS IS OF BULK AT MOST 1048576: true; the input reads as it did. -/
def fnFractionsUptoRow : OpenClaim := { program := "yteolfmhihnpjpaadoor", sum := "abff7d90dd0afeed089e0bae4e4a5abaf5c3767f39103a18530ae48346ac7337", func := "loop.example/g01004/laws.FnFractions", spec := "fnFractions", named := ["loop.example/g01004/impl.limits"], apart := false, laid := [("loop.example/g01004/impl.limits", laid_loop_example_g01004_impl_limits)], narrowed := true }
def FnFractionsUptoSaid : Prop := fnFractionsUptoRow.holds Tryd.pinned (OpenSpec.upto fnFractionsSpec)

end Rows
end Go.Proofs.YteolfmhihnpjpaaDoor
