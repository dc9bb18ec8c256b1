/- The greater of a number and its negative (own work; for a seat with fractions, in the place of XCiAbs). -/
import Derived.Test.YtjamckcbgcejdaaDoorCuBox
namespace Go.Proofs.YtjamckcbgcejdaaDoor
open Go.RowKit Go.Joins

theorem run_max_abs {P : Program} {w : World} (ts : Array TypeId) (t : TypeId) (x : Int) : (Builtin.max_ ts t #[.int .i64 x, .int .i64 (-x)]).run P w = .ok (.int .i64 ((x.natAbs : Nat) : Int)) w := by
  have e : ((x.natAbs : Nat) : Int) = if -x > x then -x else x := by split <;> omega
  rw [e]
  simp [Builtin.max_, Builtin.max2]
attribute [go_sem high] run_max_abs
end Go.Proofs.YtjamckcbgcejdaaDoor
