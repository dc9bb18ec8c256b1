/-
  NARROWER THAN 'FOR EVERY INPUT', by the rows' own cells (each row's printed sentence says how): FnExactFractionOf: laid · FnExactSumOf: laid · FnExactDifferenceOf: laid · FnExactProductOf: laid · FnExactQuotientOf: laid · FnExactSquareRootOf: laid.
  DERIVED. THE GIVEN ROWS OF THIS SEAT. 6 by the template 'for every input the law returns true; each argument reads behind the call as it read before'; 0 by the template 'total and deterministic' (their statements: YtjkbpcigpfahjaaDoorTotals.lean).
  GIVEN WITH THE SEED: the statements are not yours to turn. If you find one false, say at which input.
  Laid BY PROGRAM, IN A SANDBOX (cutbox-rows.mjs): the forced cells as the released guide's own fill.sh prints them over the translation 8ff4df86275eebca… (all of the seat's roots in one cut). By AI agents, Wed Nov 11 2026. No macro, syntax, notation, axiom, sorry.
-/
import Derived.Test.YtjkbpcigpfahjaaDoorChecked
import GoSem.Claim
import GoSem.ClaimJoined
import GoSem.ClaimMapViews
import Derived.JoinedTies
import Derived.KernelRfl
namespace Go.Proofs.YtjkbpcigpfahjaaDoor
/- THE CELL 'sum', in the pinned program and in every row, IS THE sha256 OF THE DUMP (.gsa) THAT YtjkbpcigpfahjaaDoorProg.lean LOADS. Nothing in Lean hashes anything: it is a label: what it is worth is what the hold of that sum in a sandbox is worth. -/
noncomputable def Tryd.pinned : Pinned := { name := "ytjkbpcigpfahjaadoor", sum := "8ff4df86275eebca6895f2338f382c2289666c8146323ce915c1eb3149e3469d", checked := Tryd.checked }
namespace Rows
def none {H : Type} : Left H := { results := [], args := [] }

/- WHAT THE LISTED PACKAGE-LEVEL VARIABLES READ AS WHEN THE CALL BEGINS. Each datum BY PROGRAM (the guide's laid-datum.mjs) off the statement by which the dump's own 'gosem.cut.vars' lays the variable. In a bare row this is a premise. The card (YtjkbpcigpfahjaaDoorCards.lean) ties it to the program's text. -/
def laid_loop_example_g01004_impl_limits {H : Type} : DataW H := .agg [.lit (.int .i64 1000000000), .lit (.int .i64 1000000000000000000), .lit (.int .i64 1000)]

/-- 'laws.FnExactFractionOf': WHATEVER THE INPUT: true; the input reads as it did. -/
def fnExactFractionOfSpec : ChangeSpec := { name := "fnExactFractionOf", vars := ["loop.example/g01004/impl.limits"], fn := fun _ => fun
  | [d1, d2, g1] => { results := [.lit (.bool true)], args := [d1, d2], vars := [g1] }
  | _ => none }
def fnExactFractionOfRow : OpenClaim := { program := "ytjkbpcigpfahjaadoor", sum := "8ff4df86275eebca6895f2338f382c2289666c8146323ce915c1eb3149e3469d", func := "loop.example/g01004/laws.FnExactFractionOf", spec := "fnExactFractionOf", named := ["loop.example/g01004/impl.limits"], apart := false, laid := [("loop.example/g01004/impl.limits", laid_loop_example_g01004_impl_limits)] }
def FnExactFractionOfSaid : Prop := fnExactFractionOfRow.holds Tryd.pinned (OpenSpec.ofChange fnExactFractionOfSpec)

/-- ITS FALSE NEIGHBOUR: 'it returns false'. Refute it at one input. -/
def fnExactFractionOfWrong : ChangeSpec := { name := "fnExactFractionOf", vars := ["loop.example/g01004/impl.limits"], fn := fun _ => fun
  | [d1, d2, g1] => { results := [.lit (.bool false)], args := [d1, d2], vars := [g1] }
  | _ => none }
def FnExactFractionOfWrongFalsely : Prop := fnExactFractionOfRow.holds Tryd.pinned (OpenSpec.ofChange fnExactFractionOfWrong)

/-- 'laws.FnExactSumOf': WHATEVER THE INPUT: true; the input reads as it did. -/
def fnExactSumOfSpec : ChangeSpec := { name := "fnExactSumOf", vars := ["loop.example/g01004/impl.limits"], fn := fun _ => fun
  | [d1, d2, g1] => { results := [.lit (.bool true)], args := [d1, d2], vars := [g1] }
  | _ => none }
def fnExactSumOfRow : OpenClaim := { program := "ytjkbpcigpfahjaadoor", sum := "8ff4df86275eebca6895f2338f382c2289666c8146323ce915c1eb3149e3469d", func := "loop.example/g01004/laws.FnExactSumOf", spec := "fnExactSumOf", named := ["loop.example/g01004/impl.limits"], apart := false, laid := [("loop.example/g01004/impl.limits", laid_loop_example_g01004_impl_limits)] }
def FnExactSumOfSaid : Prop := fnExactSumOfRow.holds Tryd.pinned (OpenSpec.ofChange fnExactSumOfSpec)

/-- ITS FALSE NEIGHBOUR: 'it returns false'. Refute it at one input. -/
def fnExactSumOfWrong : ChangeSpec := { name := "fnExactSumOf", vars := ["loop.example/g01004/impl.limits"], fn := fun _ => fun
  | [d1, d2, g1] => { results := [.lit (.bool false)], args := [d1, d2], vars := [g1] }
  | _ => none }
def FnExactSumOfWrongFalsely : Prop := fnExactSumOfRow.holds Tryd.pinned (OpenSpec.ofChange fnExactSumOfWrong)

/-- 'laws.FnExactDifferenceOf': WHATEVER THE INPUT: true; the input reads as it did. -/
def fnExactDifferenceOfSpec : ChangeSpec := { name := "fnExactDifferenceOf", vars := ["loop.example/g01004/impl.limits"], fn := fun _ => fun
  | [d1, d2, g1] => { results := [.lit (.bool true)], args := [d1, d2], vars := [g1] }
  | _ => none }
def fnExactDifferenceOfRow : OpenClaim := { program := "ytjkbpcigpfahjaadoor", sum := "8ff4df86275eebca6895f2338f382c2289666c8146323ce915c1eb3149e3469d", func := "loop.example/g01004/laws.FnExactDifferenceOf", spec := "fnExactDifferenceOf", named := ["loop.example/g01004/impl.limits"], apart := false, laid := [("loop.example/g01004/impl.limits", laid_loop_example_g01004_impl_limits)] }
def FnExactDifferenceOfSaid : Prop := fnExactDifferenceOfRow.holds Tryd.pinned (OpenSpec.ofChange fnExactDifferenceOfSpec)

/-- ITS FALSE NEIGHBOUR: 'it returns false'. Refute it at one input. -/
def fnExactDifferenceOfWrong : ChangeSpec := { name := "fnExactDifferenceOf", vars := ["loop.example/g01004/impl.limits"], fn := fun _ => fun
  | [d1, d2, g1] => { results := [.lit (.bool false)], args := [d1, d2], vars := [g1] }
  | _ => none }
def FnExactDifferenceOfWrongFalsely : Prop := fnExactDifferenceOfRow.holds Tryd.pinned (OpenSpec.ofChange fnExactDifferenceOfWrong)

/-- 'laws.FnExactProductOf': WHATEVER THE INPUT: true; the input reads as it did. -/
def fnExactProductOfSpec : ChangeSpec := { name := "fnExactProductOf", vars := ["loop.example/g01004/impl.limits"], fn := fun _ => fun
  | [d1, d2, g1] => { results := [.lit (.bool true)], args := [d1, d2], vars := [g1] }
  | _ => none }
def fnExactProductOfRow : OpenClaim := { program := "ytjkbpcigpfahjaadoor", sum := "8ff4df86275eebca6895f2338f382c2289666c8146323ce915c1eb3149e3469d", func := "loop.example/g01004/laws.FnExactProductOf", spec := "fnExactProductOf", named := ["loop.example/g01004/impl.limits"], apart := false, laid := [("loop.example/g01004/impl.limits", laid_loop_example_g01004_impl_limits)] }
def FnExactProductOfSaid : Prop := fnExactProductOfRow.holds Tryd.pinned (OpenSpec.ofChange fnExactProductOfSpec)

/-- ITS FALSE NEIGHBOUR: 'it returns false'. Refute it at one input. -/
def fnExactProductOfWrong : ChangeSpec := { name := "fnExactProductOf", vars := ["loop.example/g01004/impl.limits"], fn := fun _ => fun
  | [d1, d2, g1] => { results := [.lit (.bool false)], args := [d1, d2], vars := [g1] }
  | _ => none }
def FnExactProductOfWrongFalsely : Prop := fnExactProductOfRow.holds Tryd.pinned (OpenSpec.ofChange fnExactProductOfWrong)

/-- 'laws.FnExactQuotientOf': WHATEVER THE INPUT: true; the input reads as it did. -/
def fnExactQuotientOfSpec : ChangeSpec := { name := "fnExactQuotientOf", vars := ["loop.example/g01004/impl.limits"], fn := fun _ => fun
  | [d1, d2, g1] => { results := [.lit (.bool true)], args := [d1, d2], vars := [g1] }
  | _ => none }
def fnExactQuotientOfRow : OpenClaim := { program := "ytjkbpcigpfahjaadoor", sum := "8ff4df86275eebca6895f2338f382c2289666c8146323ce915c1eb3149e3469d", func := "loop.example/g01004/laws.FnExactQuotientOf", spec := "fnExactQuotientOf", named := ["loop.example/g01004/impl.limits"], apart := false, laid := [("loop.example/g01004/impl.limits", laid_loop_example_g01004_impl_limits)] }
def FnExactQuotientOfSaid : Prop := fnExactQuotientOfRow.holds Tryd.pinned (OpenSpec.ofChange fnExactQuotientOfSpec)

/-- ITS FALSE NEIGHBOUR: 'it returns false'. Refute it at one input. -/
def fnExactQuotientOfWrong : ChangeSpec := { name := "fnExactQuotientOf", vars := ["loop.example/g01004/impl.limits"], fn := fun _ => fun
  | [d1, d2, g1] => { results := [.lit (.bool false)], args := [d1, d2], vars := [g1] }
  | _ => none }
def FnExactQuotientOfWrongFalsely : Prop := fnExactQuotientOfRow.holds Tryd.pinned (OpenSpec.ofChange fnExactQuotientOfWrong)

/-- 'laws.FnExactSquareRootOf': WHATEVER THE INPUT: true; the input reads as it did. -/
def fnExactSquareRootOfSpec : ChangeSpec := { name := "fnExactSquareRootOf", vars := ["loop.example/g01004/impl.limits"], fn := fun _ => fun
  | [d, g1] => { results := [.lit (.bool true)], args := [d], vars := [g1] }
  | _ => none }
def fnExactSquareRootOfRow : OpenClaim := { program := "ytjkbpcigpfahjaadoor", sum := "8ff4df86275eebca6895f2338f382c2289666c8146323ce915c1eb3149e3469d", func := "loop.example/g01004/laws.FnExactSquareRootOf", spec := "fnExactSquareRootOf", named := ["loop.example/g01004/impl.limits"], apart := false, laid := [("loop.example/g01004/impl.limits", laid_loop_example_g01004_impl_limits)] }
def FnExactSquareRootOfSaid : Prop := fnExactSquareRootOfRow.holds Tryd.pinned (OpenSpec.ofChange fnExactSquareRootOfSpec)

/-- ITS FALSE NEIGHBOUR: 'it returns false'. Refute it at one input. -/
def fnExactSquareRootOfWrong : ChangeSpec := { name := "fnExactSquareRootOf", vars := ["loop.example/g01004/impl.limits"], fn := fun _ => fun
  | [d, g1] => { results := [.lit (.bool false)], args := [d], vars := [g1] }
  | _ => none }
def FnExactSquareRootOfWrongFalsely : Prop := fnExactSquareRootOfRow.holds Tryd.pinned (OpenSpec.ofChange fnExactSquareRootOfWrong)

/- THE SECOND FORM. 'bulk': how many values and letters a reading holds, each counted each time it is reached (what is shared counts as often as it is met; a slice's spare places count too). A statement '..UptoSaid' is the law's where the arguments, and the package variables that the reading takes, are together of bulk at most 1048576: NARROWER than '..Said'. Prove '..Said' where nothing that the law and all that it calls make is longer than what came in: it says more and counts as full. Else prove '..UptoSaid'. A law counts once. -/
mutual
def uptoBulk {H : Type} : DataW H → Nat
  | .lit (.string bytes) => bytes.length + 1
  | .lit _ => 1
  | .nil => 1
  | .ptr d => uptoBulk d + 1
  | .slice elems spare => uptoBulkAll elems + uptoBulkAll spare + 1
  | .agg parts => uptoBulkAll parts + 1
  | .iface _ d => uptoBulk d + 1
  | .map entries => uptoBulkEntries entries + 1
  | .held _ => 1
def uptoBulkAll {H : Type} : List (DataW H) → Nat
  | [] => 0
  | d :: r => uptoBulk d + uptoBulkAll r
def uptoBulkEntries {H : Type} : List (Lit × DataW H) → Nat
  | [] => 0
  | x :: r => uptoBulkEntry x + uptoBulkEntries r
def uptoBulkEntry {H : Type} : Lit × DataW H → Nat
  | (.string bytes, d) => bytes.length + uptoBulk d + 1
  | (_, d) => uptoBulk d + 1
 end
def uptoSmall : (H : Type) → List (DataW H) → Bool := fun _ ds => decide (uptoBulkAll ds ≤ 1048576)
def OpenSpec.upto (s : _root_.Go.ChangeSpec) : _root_.Go.OpenSpec := { _root_.Go.OpenSpec.ofChange s with cond := some uptoSmall }

/-- 'laws.FnExactFractionOf', WHERE WHAT IT READS IS OF BULK AT MOST 1048576: true; the input reads as it did. -/
def fnExactFractionOfUptoRow : OpenClaim := { program := "ytjkbpcigpfahjaadoor", sum := "8ff4df86275eebca6895f2338f382c2289666c8146323ce915c1eb3149e3469d", func := "loop.example/g01004/laws.FnExactFractionOf", spec := "fnExactFractionOf", named := ["loop.example/g01004/impl.limits"], apart := false, laid := [("loop.example/g01004/impl.limits", laid_loop_example_g01004_impl_limits)], narrowed := true }
def FnExactFractionOfUptoSaid : Prop := fnExactFractionOfUptoRow.holds Tryd.pinned (OpenSpec.upto fnExactFractionOfSpec)

/-- 'laws.FnExactSumOf', WHERE WHAT IT READS IS OF BULK AT MOST 1048576: true; the input reads as it did. -/
def fnExactSumOfUptoRow : OpenClaim := { program := "ytjkbpcigpfahjaadoor", sum := "8ff4df86275eebca6895f2338f382c2289666c8146323ce915c1eb3149e3469d", func := "loop.example/g01004/laws.FnExactSumOf", spec := "fnExactSumOf", named := ["loop.example/g01004/impl.limits"], apart := false, laid := [("loop.example/g01004/impl.limits", laid_loop_example_g01004_impl_limits)], narrowed := true }
def FnExactSumOfUptoSaid : Prop := fnExactSumOfUptoRow.holds Tryd.pinned (OpenSpec.upto fnExactSumOfSpec)

/-- 'laws.FnExactDifferenceOf', WHERE WHAT IT READS IS OF BULK AT MOST 1048576: true; the input reads as it did. -/
def fnExactDifferenceOfUptoRow : OpenClaim := { program := "ytjkbpcigpfahjaadoor", sum := "8ff4df86275eebca6895f2338f382c2289666c8146323ce915c1eb3149e3469d", func := "loop.example/g01004/laws.FnExactDifferenceOf", spec := "fnExactDifferenceOf", named := ["loop.example/g01004/impl.limits"], apart := false, laid := [("loop.example/g01004/impl.limits", laid_loop_example_g01004_impl_limits)], narrowed := true }
def FnExactDifferenceOfUptoSaid : Prop := fnExactDifferenceOfUptoRow.holds Tryd.pinned (OpenSpec.upto fnExactDifferenceOfSpec)

/-- 'laws.FnExactProductOf', WHERE WHAT IT READS IS OF BULK AT MOST 1048576: true; the input reads as it did. -/
def fnExactProductOfUptoRow : OpenClaim := { program := "ytjkbpcigpfahjaadoor", sum := "8ff4df86275eebca6895f2338f382c2289666c8146323ce915c1eb3149e3469d", func := "loop.example/g01004/laws.FnExactProductOf", spec := "fnExactProductOf", named := ["loop.example/g01004/impl.limits"], apart := false, laid := [("loop.example/g01004/impl.limits", laid_loop_example_g01004_impl_limits)], narrowed := true }
def FnExactProductOfUptoSaid : Prop := fnExactProductOfUptoRow.holds Tryd.pinned (OpenSpec.upto fnExactProductOfSpec)

/-- 'laws.FnExactQuotientOf', WHERE WHAT IT READS IS OF BULK AT MOST 1048576: true; the input reads as it did. -/
def fnExactQuotientOfUptoRow : OpenClaim := { program := "ytjkbpcigpfahjaadoor", sum := "8ff4df86275eebca6895f2338f382c2289666c8146323ce915c1eb3149e3469d", func := "loop.example/g01004/laws.FnExactQuotientOf", spec := "fnExactQuotientOf", named := ["loop.example/g01004/impl.limits"], apart := false, laid := [("loop.example/g01004/impl.limits", laid_loop_example_g01004_impl_limits)], narrowed := true }
def FnExactQuotientOfUptoSaid : Prop := fnExactQuotientOfUptoRow.holds Tryd.pinned (OpenSpec.upto fnExactQuotientOfSpec)

/-- 'laws.FnExactSquareRootOf', WHERE WHAT IT READS IS OF BULK AT MOST 1048576: true; the input reads as it did. -/
def fnExactSquareRootOfUptoRow : OpenClaim := { program := "ytjkbpcigpfahjaadoor", sum := "8ff4df86275eebca6895f2338f382c2289666c8146323ce915c1eb3149e3469d", func := "loop.example/g01004/laws.FnExactSquareRootOf", spec := "fnExactSquareRootOf", named := ["loop.example/g01004/impl.limits"], apart := false, laid := [("loop.example/g01004/impl.limits", laid_loop_example_g01004_impl_limits)], narrowed := true }
def FnExactSquareRootOfUptoSaid : Prop := fnExactSquareRootOfUptoRow.holds Tryd.pinned (OpenSpec.upto fnExactSquareRootOfSpec)

end Rows
end Go.Proofs.YtjkbpcigpfahjaaDoor
