/- What the laws over points share: a law's point turned into the program's, two points compared (own work). -/
import Derived.Test.YtokhadhfjbecmaaDoorPtEq
import Derived.Test.YtokhadhfjbecmaaDoorEcLaw0
namespace Go.Proofs.YtokhadhfjbecmaaDoor
open Go.RowKit Go.Joins

set_option maxHeartbeats 400000 in
theorem toPoint_any (p q r : Int) (w : World) : Calls Tryd.prog 7 #[.agg #[.int .i64 p, .int .i64 q, .int .i64 r]] w (GivesP w p q r) := by
  go_enter Tryd.func7, Tryd.ntmps7
  go_wp2
  refine bodyPost_ret (v := .agg #[.int .i64 p, .int .i64 q, .int .i64 r]) (by simp [results, Tryd.results7, go_sem]) rfl ⟨rfl, ?_⟩
  exact below_alloc3 _ _ _ _

set_option maxHeartbeats 400000 in
theorem eqPoint_yes (p q r : Int) (w : World) : Calls Tryd.prog 11 #[.agg #[.int .i64 p, .int .i64 q, .int .i64 r], .agg #[.int .i64 p, .int .i64 q, .int .i64 r]] w (GivesB w true) := by
  have h2 : Below w.heap.size w ((w.alloc (.cells #[.int .i64 p, .int .i64 q, .int .i64 r] 30)).alloc (.cells #[.int .i64 p, .int .i64 q, .int .i64 r] 30)) := below_alloc2 _ _ _
  have e0 : (p != p) = false := by simp
  have e1 : (q != q) = false := by simp
  have e2 : (r != r) = false := by simp
  go_enter Tryd.func11, Tryd.ntmps11
  go_wp2
  go_ret
  exact ⟨rfl, h2⟩
end Go.Proofs.YtokhadhfjbecmaaDoor
