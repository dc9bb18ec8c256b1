/- The least and the greatest of two ints (own work). -/
import Derived.Test.YtbgoiflkpefckaaEcBox
namespace Go.Proofs.Ytbgoiflkpefckaa
open Go.RowKit Go.Joins

def mn2 (a b : Int) : Int := min a b
def mx2 (a b : Int) : Int := max a b
theorem run_min_int2 {P : Program} {w : World} (ts : Array TypeId) (t : TypeId) (a b : Int) : (Builtin.min_ ts t #[.int .i64 a, .int .i64 b]).run P w = .ok (.int .i64 (mn2 a b)) w := by
  have e : mn2 a b = if b < a then b else a := by
    unfold mn2
    split <;> omega
  rw [e]
  simp [Builtin.min_, Builtin.min2]
theorem run_max_int2 {P : Program} {w : World} (ts : Array TypeId) (t : TypeId) (a b : Int) : (Builtin.max_ ts t #[.int .i64 a, .int .i64 b]).run P w = .ok (.int .i64 (mx2 a b)) w := by
  have e : mx2 a b = if b > a then b else a := by
    unfold mx2
    split <;> omega
  rw [e]
  simp [Builtin.max_, Builtin.max2]
attribute [go_sem high] run_min_int2 run_max_int2
end Go.Proofs.Ytbgoiflkpefckaa
