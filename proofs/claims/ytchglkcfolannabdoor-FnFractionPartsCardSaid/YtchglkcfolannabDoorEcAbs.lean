/- The greater of a number and its negative (own work). -/
import Derived.Test.YtchglkcfolannabDoorEcBox
namespace Go.Proofs.YtchglkcfolannabDoor
open Go.RowKit Go.Joins

theorem run_max_neg {P : Program} {w : World} (ts : Array TypeId) (t : TypeId) (x : Int) : (Builtin.max_ ts t #[.int .i64 x, .int .i64 (-x)]).run P w = .ok (.int .i64 ((x.natAbs : Nat) : Int)) w := by
  have e : ((x.natAbs : Nat) : Int) = if -x > x then -x else x := by split <;> omega
  rw [e]
  simp [Builtin.max_, Builtin.max2]
attribute [go_sem 20000] run_max_neg
end Go.Proofs.YtchglkcfolannabDoor
