/- What the laws over fractions share: a law's fraction turned into the program's, two fractions compared. -/
import Derived.Test.YtabcnkobojkdhaaPtBox
import Derived.Deep.DeepCutAuto
namespace Go.Proofs.Ytabcnkobojkdhaa
open Go.RowKit Go.Joins

set_option maxHeartbeats 400000 in
theorem toFraction_any (p q : Int) (w : World) : Calls Try.prog 15 #[.agg #[.int .i64 p, .int .i64 q]] w (GivesF w p q) := by
  go_enter Try.func15, Try.ntmps15
  go_wp2
  refine bodyPost_ret (v := .agg #[.int .i64 p, .int .i64 q]) (by simp [results, Try.results15, go_sem]) rfl ⟨rfl, ?_⟩
  exact below_alloc3 _ _ _ _

end Go.Proofs.Ytabcnkobojkdhaa
