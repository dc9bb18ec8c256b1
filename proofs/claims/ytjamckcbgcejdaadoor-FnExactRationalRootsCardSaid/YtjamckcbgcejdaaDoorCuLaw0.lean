/- What the laws over cubics share: a law's cubic turned into the program's, two cubics compared. -/
import Derived.Test.YtjamckcbgcejdaaDoorCuBox
import Derived.Deep.DeepCutAuto
namespace Go.Proofs.YtjamckcbgcejdaaDoor
open Go.RowKit Go.Joins

def GivesC (w : World) (a b c d : Int) (e : Ending) (w' : World) : Prop := e = .returned (.agg #[.int .i64 a, .int .i64 b, .int .i64 c, .int .i64 d]) ∧ Below w.heap.size w w'

set_option maxHeartbeats 1000000 in
theorem toCubic_any (a b c d : Int) (w : World) : Calls Tryd.prog 9 #[.agg #[.int .i64 a, .int .i64 b, .int .i64 c, .int .i64 d]] w (GivesC w a b c d) := by
  go_enter Tryd.func9, Tryd.ntmps9
  go_wp2
  refine bodyPost_ret (v := .agg #[.int .i64 a, .int .i64 b, .int .i64 c, .int .i64 d]) (by simp [results, Tryd.results9, go_sem]) rfl ⟨rfl, ?_⟩
  exact below_alloc3 _ _ _ _

end Go.Proofs.YtjamckcbgcejdaaDoor
