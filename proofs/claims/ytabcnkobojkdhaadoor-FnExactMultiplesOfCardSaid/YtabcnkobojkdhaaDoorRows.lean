/-
  NARROWER THAN 'FOR EVERY INPUT', by the rows' own cells (each row's printed sentence says how): FnExactAddPoints: laid · FnExactDoublePoint: laid · FnExactMultiplePoint: laid · FnExactMultiplesOf: laid · FnExactOrderOfPoint: laid · FnExactAreCollinear: laid · FnExactSlopeOf: laid.
  DERIVED. THE GIVEN ROWS OF THIS SEAT. 7 by the template 'for every input the law returns true; each argument reads behind the call as it read before'; 0 by the template 'total and deterministic' (their statements: YtabcnkobojkdhaaDoorTotals.lean).
  GIVEN WITH THE SEED: the statements are not yours to turn. If you find one false, say at which input.
  Laid BY PROGRAM, IN A SANDBOX (cutbox-rows.mjs): the forced cells as the released guide's own fill.sh prints them over the translation 6c3838efba2cf708… (all of the seat's roots in one cut). By AI agents, Wed Nov 11 2026. No macro, syntax, notation, axiom, sorry.
-/
import Derived.Test.YtabcnkobojkdhaaDoorChecked
import GoSem.Claim
import GoSem.ClaimJoined
import GoSem.ClaimMapViews
import Derived.JoinedTies
import Derived.KernelRfl
namespace Go.Proofs.YtabcnkobojkdhaaDoor
/- THE CELL 'sum', in the pinned program and in every row, IS THE sha256 OF THE DUMP (.gsa) THAT YtabcnkobojkdhaaDoorProg.lean LOADS. Nothing in Lean hashes anything: it is a label: what it is worth is what the hold of that sum in a sandbox is worth. -/
noncomputable def Tryd.pinned : Pinned := { name := "ytabcnkobojkdhaadoor", sum := "6c3838efba2cf708763efa3df45fb197234464486a42b08aa7492b23e9aec1db", checked := Tryd.checked }
namespace Rows
def none {H : Type} : Left H := { results := [], args := [] }

/- WHAT THE LISTED PACKAGE-LEVEL VARIABLES READ AS WHEN THE CALL BEGINS. Each datum BY PROGRAM (the guide's laid-datum.mjs) off the statement by which the dump's own 'gosem.cut.vars' lays the variable. In a bare row this is a premise. The card (YtabcnkobojkdhaaDoorCards.lean) ties it to the program's text. -/
def laid_loop_example_g01004_impl_limits {H : Type} : DataW H := .agg [.lit (.int .i64 1000000000), .lit (.int .i64 1000000000000000000), .lit (.int .i64 1000)]

/-- 'laws.FnExactAddPoints': WHATEVER THE INPUT: true; the input reads as it did. -/
def fnExactAddPointsSpec : ChangeSpec := { name := "fnExactAddPoints", vars := ["loop.example/g01004/impl.limits"], fn := fun _ => fun
  | [d1, d2, d3, g1] => { results := [.lit (.bool true)], args := [d1, d2, d3], vars := [g1] }
  | _ => none }
def fnExactAddPointsRow : OpenClaim := { program := "ytabcnkobojkdhaadoor", sum := "6c3838efba2cf708763efa3df45fb197234464486a42b08aa7492b23e9aec1db", func := "loop.example/g01004/laws.FnExactAddPoints", spec := "fnExactAddPoints", unfollowed := true, recurses := true, named := ["loop.example/g01004/impl.limits"], apart := false, laid := [("loop.example/g01004/impl.limits", laid_loop_example_g01004_impl_limits)] }
def FnExactAddPointsSaid : Prop := fnExactAddPointsRow.holds Tryd.pinned (OpenSpec.ofChange fnExactAddPointsSpec)

/-- ITS FALSE NEIGHBOUR: 'it returns false'. Refute it at one input. -/
def fnExactAddPointsWrong : ChangeSpec := { name := "fnExactAddPoints", vars := ["loop.example/g01004/impl.limits"], fn := fun _ => fun
  | [d1, d2, d3, g1] => { results := [.lit (.bool false)], args := [d1, d2, d3], vars := [g1] }
  | _ => none }
def FnExactAddPointsWrongFalsely : Prop := fnExactAddPointsRow.holds Tryd.pinned (OpenSpec.ofChange fnExactAddPointsWrong)

/-- 'laws.FnExactDoublePoint': WHATEVER THE INPUT: true; the input reads as it did. -/
def fnExactDoublePointSpec : ChangeSpec := { name := "fnExactDoublePoint", vars := ["loop.example/g01004/impl.limits"], fn := fun _ => fun
  | [d1, d2, g1] => { results := [.lit (.bool true)], args := [d1, d2], vars := [g1] }
  | _ => none }
def fnExactDoublePointRow : OpenClaim := { program := "ytabcnkobojkdhaadoor", sum := "6c3838efba2cf708763efa3df45fb197234464486a42b08aa7492b23e9aec1db", func := "loop.example/g01004/laws.FnExactDoublePoint", spec := "fnExactDoublePoint", unfollowed := true, recurses := true, named := ["loop.example/g01004/impl.limits"], apart := false, laid := [("loop.example/g01004/impl.limits", laid_loop_example_g01004_impl_limits)] }
def FnExactDoublePointSaid : Prop := fnExactDoublePointRow.holds Tryd.pinned (OpenSpec.ofChange fnExactDoublePointSpec)

/-- ITS FALSE NEIGHBOUR: 'it returns false'. Refute it at one input. -/
def fnExactDoublePointWrong : ChangeSpec := { name := "fnExactDoublePoint", vars := ["loop.example/g01004/impl.limits"], fn := fun _ => fun
  | [d1, d2, g1] => { results := [.lit (.bool false)], args := [d1, d2], vars := [g1] }
  | _ => none }
def FnExactDoublePointWrongFalsely : Prop := fnExactDoublePointRow.holds Tryd.pinned (OpenSpec.ofChange fnExactDoublePointWrong)

/-- 'laws.FnExactMultiplePoint': WHATEVER THE INPUT: true; the input reads as it did. -/
def fnExactMultiplePointSpec : ChangeSpec := { name := "fnExactMultiplePoint", vars := ["loop.example/g01004/impl.limits"], fn := fun _ => fun
  | [d1, d2, d3, g1] => { results := [.lit (.bool true)], args := [d1, d2, d3], vars := [g1] }
  | _ => none }
def fnExactMultiplePointRow : OpenClaim := { program := "ytabcnkobojkdhaadoor", sum := "6c3838efba2cf708763efa3df45fb197234464486a42b08aa7492b23e9aec1db", func := "loop.example/g01004/laws.FnExactMultiplePoint", spec := "fnExactMultiplePoint", unfollowed := true, recurses := true, named := ["loop.example/g01004/impl.limits"], apart := false, laid := [("loop.example/g01004/impl.limits", laid_loop_example_g01004_impl_limits)] }
def FnExactMultiplePointSaid : Prop := fnExactMultiplePointRow.holds Tryd.pinned (OpenSpec.ofChange fnExactMultiplePointSpec)

/-- ITS FALSE NEIGHBOUR: 'it returns false'. Refute it at one input. -/
def fnExactMultiplePointWrong : ChangeSpec := { name := "fnExactMultiplePoint", vars := ["loop.example/g01004/impl.limits"], fn := fun _ => fun
  | [d1, d2, d3, g1] => { results := [.lit (.bool false)], args := [d1, d2, d3], vars := [g1] }
  | _ => none }
def FnExactMultiplePointWrongFalsely : Prop := fnExactMultiplePointRow.holds Tryd.pinned (OpenSpec.ofChange fnExactMultiplePointWrong)

/-- 'laws.FnExactMultiplesOf': WHATEVER THE INPUT: true; the input reads as it did. -/
def fnExactMultiplesOfSpec : ChangeSpec := { name := "fnExactMultiplesOf", vars := ["loop.example/g01004/impl.limits"], fn := fun _ => fun
  | [d1, d2, d3, g1] => { results := [.lit (.bool true)], args := [d1, d2, d3], vars := [g1] }
  | _ => none }
def fnExactMultiplesOfRow : OpenClaim := { program := "ytabcnkobojkdhaadoor", sum := "6c3838efba2cf708763efa3df45fb197234464486a42b08aa7492b23e9aec1db", func := "loop.example/g01004/laws.FnExactMultiplesOf", spec := "fnExactMultiplesOf", unfollowed := true, recurses := true, named := ["loop.example/g01004/impl.limits"], apart := false, laid := [("loop.example/g01004/impl.limits", laid_loop_example_g01004_impl_limits)] }
def FnExactMultiplesOfSaid : Prop := fnExactMultiplesOfRow.holds Tryd.pinned (OpenSpec.ofChange fnExactMultiplesOfSpec)

/-- ITS FALSE NEIGHBOUR: 'it returns false'. Refute it at one input. -/
def fnExactMultiplesOfWrong : ChangeSpec := { name := "fnExactMultiplesOf", vars := ["loop.example/g01004/impl.limits"], fn := fun _ => fun
  | [d1, d2, d3, g1] => { results := [.lit (.bool false)], args := [d1, d2, d3], vars := [g1] }
  | _ => none }
def FnExactMultiplesOfWrongFalsely : Prop := fnExactMultiplesOfRow.holds Tryd.pinned (OpenSpec.ofChange fnExactMultiplesOfWrong)

/-- 'laws.FnExactOrderOfPoint': WHATEVER THE INPUT: true; the input reads as it did. -/
def fnExactOrderOfPointSpec : ChangeSpec := { name := "fnExactOrderOfPoint", vars := ["loop.example/g01004/impl.limits"], fn := fun _ => fun
  | [d1, d2, g1] => { results := [.lit (.bool true)], args := [d1, d2], vars := [g1] }
  | _ => none }
def fnExactOrderOfPointRow : OpenClaim := { program := "ytabcnkobojkdhaadoor", sum := "6c3838efba2cf708763efa3df45fb197234464486a42b08aa7492b23e9aec1db", func := "loop.example/g01004/laws.FnExactOrderOfPoint", spec := "fnExactOrderOfPoint", unfollowed := true, recurses := true, named := ["loop.example/g01004/impl.limits"], apart := false, laid := [("loop.example/g01004/impl.limits", laid_loop_example_g01004_impl_limits)] }
def FnExactOrderOfPointSaid : Prop := fnExactOrderOfPointRow.holds Tryd.pinned (OpenSpec.ofChange fnExactOrderOfPointSpec)

/-- ITS FALSE NEIGHBOUR: 'it returns false'. Refute it at one input. -/
def fnExactOrderOfPointWrong : ChangeSpec := { name := "fnExactOrderOfPoint", vars := ["loop.example/g01004/impl.limits"], fn := fun _ => fun
  | [d1, d2, g1] => { results := [.lit (.bool false)], args := [d1, d2], vars := [g1] }
  | _ => none }
def FnExactOrderOfPointWrongFalsely : Prop := fnExactOrderOfPointRow.holds Tryd.pinned (OpenSpec.ofChange fnExactOrderOfPointWrong)

/-- 'laws.FnExactAreCollinear': WHATEVER THE INPUT: true; the input reads as it did. -/
def fnExactAreCollinearSpec : ChangeSpec := { name := "fnExactAreCollinear", vars := ["loop.example/g01004/impl.limits"], fn := fun _ => fun
  | [d1, d2, d3, d4, g1] => { results := [.lit (.bool true)], args := [d1, d2, d3, d4], vars := [g1] }
  | _ => none }
def fnExactAreCollinearRow : OpenClaim := { program := "ytabcnkobojkdhaadoor", sum := "6c3838efba2cf708763efa3df45fb197234464486a42b08aa7492b23e9aec1db", func := "loop.example/g01004/laws.FnExactAreCollinear", spec := "fnExactAreCollinear", unfollowed := true, recurses := true, named := ["loop.example/g01004/impl.limits"], apart := false, laid := [("loop.example/g01004/impl.limits", laid_loop_example_g01004_impl_limits)] }
def FnExactAreCollinearSaid : Prop := fnExactAreCollinearRow.holds Tryd.pinned (OpenSpec.ofChange fnExactAreCollinearSpec)

/-- ITS FALSE NEIGHBOUR: 'it returns false'. Refute it at one input. -/
def fnExactAreCollinearWrong : ChangeSpec := { name := "fnExactAreCollinear", vars := ["loop.example/g01004/impl.limits"], fn := fun _ => fun
  | [d1, d2, d3, d4, g1] => { results := [.lit (.bool false)], args := [d1, d2, d3, d4], vars := [g1] }
  | _ => none }
def FnExactAreCollinearWrongFalsely : Prop := fnExactAreCollinearRow.holds Tryd.pinned (OpenSpec.ofChange fnExactAreCollinearWrong)

/-- 'laws.FnExactSlopeOf': WHATEVER THE INPUT: true; the input reads as it did. -/
def fnExactSlopeOfSpec : ChangeSpec := { name := "fnExactSlopeOf", vars := ["loop.example/g01004/impl.limits"], fn := fun _ => fun
  | [d1, d2, d3, g1] => { results := [.lit (.bool true)], args := [d1, d2, d3], vars := [g1] }
  | _ => none }
def fnExactSlopeOfRow : OpenClaim := { program := "ytabcnkobojkdhaadoor", sum := "6c3838efba2cf708763efa3df45fb197234464486a42b08aa7492b23e9aec1db", func := "loop.example/g01004/laws.FnExactSlopeOf", spec := "fnExactSlopeOf", unfollowed := true, recurses := true, named := ["loop.example/g01004/impl.limits"], apart := false, laid := [("loop.example/g01004/impl.limits", laid_loop_example_g01004_impl_limits)] }
def FnExactSlopeOfSaid : Prop := fnExactSlopeOfRow.holds Tryd.pinned (OpenSpec.ofChange fnExactSlopeOfSpec)

/-- ITS FALSE NEIGHBOUR: 'it returns false'. Refute it at one input. -/
def fnExactSlopeOfWrong : ChangeSpec := { name := "fnExactSlopeOf", vars := ["loop.example/g01004/impl.limits"], fn := fun _ => fun
  | [d1, d2, d3, g1] => { results := [.lit (.bool false)], args := [d1, d2, d3], vars := [g1] }
  | _ => none }
def FnExactSlopeOfWrongFalsely : Prop := fnExactSlopeOfRow.holds Tryd.pinned (OpenSpec.ofChange fnExactSlopeOfWrong)

/- THE SECOND FORM. 'bulk': how many values and letters a reading holds, each counted each time it is reached (what is shared counts as often as it is met; a slice's spare places count too). A statement '..UptoSaid' is the law's where the arguments, and the package variables that the reading takes, are together of bulk at most 1048576: NARROWER than '..Said'. Prove '..Said' where nothing that the law and all that it calls make is longer than what came in: it says more and counts as full. Else prove '..UptoSaid'. A law counts once. -/
mutual
def uptoBulk {H : Type} : DataW H → Nat
  | .lit (.string bytes) => bytes.length + 1
  | .lit _ => 1
  | .nil => 1
  | .ptr d => uptoBulk d + 1
  | .slice elems spare => uptoBulkAll elems + uptoBulkAll spare + 1
  | .agg parts => uptoBulkAll parts + 1
  | .iface _ d => uptoBulk d + 1
  | .map entries => uptoBulkEntries entries + 1
  | .held _ => 1
def uptoBulkAll {H : Type} : List (DataW H) → Nat
  | [] => 0
  | d :: r => uptoBulk d + uptoBulkAll r
def uptoBulkEntries {H : Type} : List (Lit × DataW H) → Nat
  | [] => 0
  | x :: r => uptoBulkEntry x + uptoBulkEntries r
def uptoBulkEntry {H : Type} : Lit × DataW H → Nat
  | (.string bytes, d) => bytes.length + uptoBulk d + 1
  | (_, d) => uptoBulk d + 1
 end
def uptoSmall : (H : Type) → List (DataW H) → Bool := fun _ ds => decide (uptoBulkAll ds ≤ 1048576)
def OpenSpec.upto (s : _root_.Go.ChangeSpec) : _root_.Go.OpenSpec := { _root_.Go.OpenSpec.ofChange s with cond := some uptoSmall }

/-- 'laws.FnExactAddPoints', WHERE WHAT IT READS IS OF BULK AT MOST 1048576: true; the input reads as it did. -/
def fnExactAddPointsUptoRow : OpenClaim := { program := "ytabcnkobojkdhaadoor", sum := "6c3838efba2cf708763efa3df45fb197234464486a42b08aa7492b23e9aec1db", func := "loop.example/g01004/laws.FnExactAddPoints", spec := "fnExactAddPoints", unfollowed := true, recurses := true, named := ["loop.example/g01004/impl.limits"], apart := false, laid := [("loop.example/g01004/impl.limits", laid_loop_example_g01004_impl_limits)], narrowed := true }
def FnExactAddPointsUptoSaid : Prop := fnExactAddPointsUptoRow.holds Tryd.pinned (OpenSpec.upto fnExactAddPointsSpec)

/-- 'laws.FnExactDoublePoint', WHERE WHAT IT READS IS OF BULK AT MOST 1048576: true; the input reads as it did. -/
def fnExactDoublePointUptoRow : OpenClaim := { program := "ytabcnkobojkdhaadoor", sum := "6c3838efba2cf708763efa3df45fb197234464486a42b08aa7492b23e9aec1db", func := "loop.example/g01004/laws.FnExactDoublePoint", spec := "fnExactDoublePoint", unfollowed := true, recurses := true, named := ["loop.example/g01004/impl.limits"], apart := false, laid := [("loop.example/g01004/impl.limits", laid_loop_example_g01004_impl_limits)], narrowed := true }
def FnExactDoublePointUptoSaid : Prop := fnExactDoublePointUptoRow.holds Tryd.pinned (OpenSpec.upto fnExactDoublePointSpec)

/-- 'laws.FnExactMultiplePoint', WHERE WHAT IT READS IS OF BULK AT MOST 1048576: true; the input reads as it did. -/
def fnExactMultiplePointUptoRow : OpenClaim := { program := "ytabcnkobojkdhaadoor", sum := "6c3838efba2cf708763efa3df45fb197234464486a42b08aa7492b23e9aec1db", func := "loop.example/g01004/laws.FnExactMultiplePoint", spec := "fnExactMultiplePoint", unfollowed := true, recurses := true, named := ["loop.example/g01004/impl.limits"], apart := false, laid := [("loop.example/g01004/impl.limits", laid_loop_example_g01004_impl_limits)], narrowed := true }
def FnExactMultiplePointUptoSaid : Prop := fnExactMultiplePointUptoRow.holds Tryd.pinned (OpenSpec.upto fnExactMultiplePointSpec)

/-- 'laws.FnExactMultiplesOf', WHERE WHAT IT READS IS OF BULK AT MOST 1048576: true; the input reads as it did. -/
def fnExactMultiplesOfUptoRow : OpenClaim := { program := "ytabcnkobojkdhaadoor", sum := "6c3838efba2cf708763efa3df45fb197234464486a42b08aa7492b23e9aec1db", func := "loop.example/g01004/laws.FnExactMultiplesOf", spec := "fnExactMultiplesOf", unfollowed := true, recurses := true, named := ["loop.example/g01004/impl.limits"], apart := false, laid := [("loop.example/g01004/impl.limits", laid_loop_example_g01004_impl_limits)], narrowed := true }
def FnExactMultiplesOfUptoSaid : Prop := fnExactMultiplesOfUptoRow.holds Tryd.pinned (OpenSpec.upto fnExactMultiplesOfSpec)

/-- 'laws.FnExactOrderOfPoint', WHERE WHAT IT READS IS OF BULK AT MOST 1048576: true; the input reads as it did. -/
def fnExactOrderOfPointUptoRow : OpenClaim := { program := "ytabcnkobojkdhaadoor", sum := "6c3838efba2cf708763efa3df45fb197234464486a42b08aa7492b23e9aec1db", func := "loop.example/g01004/laws.FnExactOrderOfPoint", spec := "fnExactOrderOfPoint", unfollowed := true, recurses := true, named := ["loop.example/g01004/impl.limits"], apart := false, laid := [("loop.example/g01004/impl.limits", laid_loop_example_g01004_impl_limits)], narrowed := true }
def FnExactOrderOfPointUptoSaid : Prop := fnExactOrderOfPointUptoRow.holds Tryd.pinned (OpenSpec.upto fnExactOrderOfPointSpec)

/-- 'laws.FnExactAreCollinear', WHERE WHAT IT READS IS OF BULK AT MOST 1048576: true; the input reads as it did. -/
def fnExactAreCollinearUptoRow : OpenClaim := { program := "ytabcnkobojkdhaadoor", sum := "6c3838efba2cf708763efa3df45fb197234464486a42b08aa7492b23e9aec1db", func := "loop.example/g01004/laws.FnExactAreCollinear", spec := "fnExactAreCollinear", unfollowed := true, recurses := true, named := ["loop.example/g01004/impl.limits"], apart := false, laid := [("loop.example/g01004/impl.limits", laid_loop_example_g01004_impl_limits)], narrowed := true }
def FnExactAreCollinearUptoSaid : Prop := fnExactAreCollinearUptoRow.holds Tryd.pinned (OpenSpec.upto fnExactAreCollinearSpec)

/-- 'laws.FnExactSlopeOf', WHERE WHAT IT READS IS OF BULK AT MOST 1048576: true; the input reads as it did. -/
def fnExactSlopeOfUptoRow : OpenClaim := { program := "ytabcnkobojkdhaadoor", sum := "6c3838efba2cf708763efa3df45fb197234464486a42b08aa7492b23e9aec1db", func := "loop.example/g01004/laws.FnExactSlopeOf", spec := "fnExactSlopeOf", unfollowed := true, recurses := true, named := ["loop.example/g01004/impl.limits"], apart := false, laid := [("loop.example/g01004/impl.limits", laid_loop_example_g01004_impl_limits)], narrowed := true }
def FnExactSlopeOfUptoSaid : Prop := fnExactSlopeOfUptoRow.holds Tryd.pinned (OpenSpec.upto fnExactSlopeOfSpec)

end Rows
end Go.Proofs.YtabcnkobojkdhaaDoor
