/- What the laws over fractions share: a law's fraction turned into the program's, two fractions compared. -/
import Derived.Test.YtabcnkobojkdhaaDoorFrGcd
import Derived.Deep.DeepCutAuto
namespace Go.Proofs.YtabcnkobojkdhaaDoor
open Go.RowKit Go.Joins

set_option maxHeartbeats 400000 in
theorem eqFraction_yes (p q : Int) (w : World) : Calls Tryd.prog 30 #[.agg #[.int .i64 p, .int .i64 q], .agg #[.int .i64 p, .int .i64 q]] w (GivesB w true) := by
  have h2 : Below w.heap.size w ((w.alloc (.cells #[.int .i64 p, .int .i64 q] 49)).alloc (.cells #[.int .i64 p, .int .i64 q] 49)) := below_alloc2 _ _ _
  have e0 : (p != p) = false := by simp
  have e1 : (q != q) = false := by simp
  go_enter Tryd.func30, Tryd.ntmps30
  go_wp2
  go_ret
  exact ⟨rfl, h2⟩
end Go.Proofs.YtabcnkobojkdhaaDoor
