/- The least and the greatest of four ints (own work). -/
import Derived.Test.YtanmkamagdajpaaDoorCuBox
namespace Go.Proofs.YtanmkamagdajpaaDoor
open Go.RowKit Go.Joins

/-- The least, the greatest of four. -/
def mn4 (a b c d : Int) : Int := min (min (min a b) c) d
def mx4 (a b c d : Int) : Int := max (max (max a b) c) d
theorem run_min_int4 {P : Program} {w : World} (ts : Array TypeId) (t : TypeId) (a b c d : Int) : (Builtin.min_ ts t #[.int .i64 a, .int .i64 b, .int .i64 c, .int .i64 d]).run P w = .ok (.int .i64 (mn4 a b c d)) w := by
  have e : mn4 a b c d = if d < (if c < (if b < a then b else a) then c else (if b < a then b else a)) then d else (if c < (if b < a then b else a) then c else (if b < a then b else a)) := by
    unfold mn4
    split <;> split <;> split <;> omega
  rw [e]
  simp [Builtin.min_, Builtin.min2]
theorem run_max_int4 {P : Program} {w : World} (ts : Array TypeId) (t : TypeId) (a b c d : Int) : (Builtin.max_ ts t #[.int .i64 a, .int .i64 b, .int .i64 c, .int .i64 d]).run P w = .ok (.int .i64 (mx4 a b c d)) w := by
  have e : mx4 a b c d = if d > (if c > (if b > a then b else a) then c else (if b > a then b else a)) then d else (if c > (if b > a then b else a) then c else (if b > a then b else a)) := by
    unfold mx4
    split <;> split <;> split <;> omega
  rw [e]
  simp [Builtin.max_, Builtin.max2]
attribute [go_sem] run_min_int4 run_max_int4
end Go.Proofs.YtanmkamagdajpaaDoor
