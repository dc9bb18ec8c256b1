/- Equality of points and of curves as the program's (own work). -/
import Derived.Test.YtokhadhfjbecmaaDoorPtBox
import Derived.Laws.StructEq
namespace Go.Proofs.YtokhadhfjbecmaaDoor
open Go.RowKit Go.Joins

theorem run_eqPt (x y e x' y' e' : Int) (w : World) : (binOp .eql 30 (.agg #[.int .i64 x, .int .i64 y, .int .i64 e]) (.agg #[.int .i64 x', .int .i64 y', .int .i64 e'])).run Tryd.prog w = .ok (.bool (x == x' && y == y' && e == e')) w := by
  cases h1 : x == x' <;> cases h2 : y == y' <;> cases h3 : e == e' <;> simp [go_sem, h1, h2, h3]
attribute [go_sem 20000] run_eqPt
end Go.Proofs.YtokhadhfjbecmaaDoor
