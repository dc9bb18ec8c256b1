/- What the laws over curves share: a law's curve turned into the program's, two curves compared. -/
import Derived.Test.YtoekhkppjccceaaDoorEcBox
import Derived.Deep.DeepCutAuto
namespace Go.Proofs.YtoekhkppjccceaaDoor
open Go.RowKit Go.Joins

set_option maxHeartbeats 400000 in
theorem toCurve_any (p q : Int) (w : World) : Calls Tryd.prog 6 #[.agg #[.int .i64 p, .int .i64 q]] w (GivesF w p q) := by
  go_enter Tryd.func6, Tryd.ntmps6
  go_wp2
  refine bodyPost_ret (v := .agg #[.int .i64 p, .int .i64 q]) (by simp [results, Tryd.results6, go_sem]) rfl ⟨rfl, ?_⟩
  exact below_alloc3 _ _ _ _

set_option maxHeartbeats 400000 in
theorem eqCurve_yes (p q : Int) (w : World) : Calls Tryd.prog 10 #[.agg #[.int .i64 p, .int .i64 q], .agg #[.int .i64 p, .int .i64 q]] w (GivesB w true) := by
  have h2 : Below w.heap.size w ((w.alloc (.cells #[.int .i64 p, .int .i64 q] 26)).alloc (.cells #[.int .i64 p, .int .i64 q] 26)) := below_alloc2 _ _ _
  have e0 : (p != p) = false := by simp
  have e1 : (q != q) = false := by simp
  go_enter Tryd.func10, Tryd.ntmps10
  go_wp2
  go_ret
  exact ⟨rfl, h2⟩
end Go.Proofs.YtoekhkppjccceaaDoor
