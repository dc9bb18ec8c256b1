/- What the laws over points share: a law's point turned into the program's, two points compared (own work). -/
import Derived.Test.YtabcnkobojkdhaaPtEq
import Derived.Test.YtabcnkobojkdhaaEcLaw0
namespace Go.Proofs.Ytabcnkobojkdhaa
open Go.RowKit Go.Joins

set_option maxHeartbeats 400000 in
theorem toPoint_any (p q r : Int) (w : World) : Calls Try.prog 9 #[.agg #[.int .i64 p, .int .i64 q, .int .i64 r]] w (GivesP w p q r) := by
  go_enter Try.func9, Try.ntmps9
  go_wp2
  refine bodyPost_ret (v := .agg #[.int .i64 p, .int .i64 q, .int .i64 r]) (by simp [results, Try.results9, go_sem]) rfl ⟨rfl, ?_⟩
  exact below_alloc3 _ _ _ _

set_option maxHeartbeats 400000 in
theorem eqPoint_yes (p q r : Int) (w : World) : Calls Try.prog 13 #[.agg #[.int .i64 p, .int .i64 q, .int .i64 r], .agg #[.int .i64 p, .int .i64 q, .int .i64 r]] w (GivesB w true) := by
  have h2 : Below w.heap.size w ((w.alloc (.cells #[.int .i64 p, .int .i64 q, .int .i64 r] 29)).alloc (.cells #[.int .i64 p, .int .i64 q, .int .i64 r] 29)) := below_alloc2 _ _ _
  have e0 : (p != p) = false := by simp
  have e1 : (q != q) = false := by simp
  have e2 : (r != r) = false := by simp
  go_enter Try.func13, Try.ntmps13
  go_wp2
  go_ret
  exact ⟨rfl, h2⟩
end Go.Proofs.Ytabcnkobojkdhaa
