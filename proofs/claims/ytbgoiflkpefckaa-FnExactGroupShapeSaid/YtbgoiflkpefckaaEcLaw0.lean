/- What the laws over curves share: a law's curve turned into the program's, two curves compared. -/
import Derived.Test.YtbgoiflkpefckaaEcBox
import Derived.Deep.DeepCutAuto
namespace Go.Proofs.Ytbgoiflkpefckaa
open Go.RowKit Go.Joins

set_option maxHeartbeats 400000 in
theorem toCurve_any (p q : Int) (w : World) : Calls Try.prog 14 #[.agg #[.int .i64 p, .int .i64 q]] w (GivesF w p q) := by
  go_enter Try.func14, Try.ntmps14
  go_wp2
  refine bodyPost_ret (v := .agg #[.int .i64 p, .int .i64 q]) (by simp [results, Try.results14, go_sem]) rfl ⟨rfl, ?_⟩
  exact below_alloc3 _ _ _ _

end Go.Proofs.Ytbgoiflkpefckaa
