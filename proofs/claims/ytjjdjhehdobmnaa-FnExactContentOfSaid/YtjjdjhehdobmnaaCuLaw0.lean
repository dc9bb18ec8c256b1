/- What the laws over cubics share: a law's cubic turned into the program's, two cubics compared. -/
import Derived.Test.YtjjdjhehdobmnaaCuBox
import Derived.Deep.DeepCutAuto
namespace Go.Proofs.Ytjjdjhehdobmnaa
open Go.RowKit Go.Joins

def GivesC (w : World) (a b c d : Int) (e : Ending) (w' : World) : Prop := e = .returned (.agg #[.int .i64 a, .int .i64 b, .int .i64 c, .int .i64 d]) ∧ Below w.heap.size w w'

set_option maxHeartbeats 1000000 in
theorem toCubic_any (a b c d : Int) (w : World) : Calls Try.prog 12 #[.agg #[.int .i64 a, .int .i64 b, .int .i64 c, .int .i64 d]] w (GivesC w a b c d) := by
  go_enter Try.func12, Try.ntmps12
  go_wp2
  refine bodyPost_ret (v := .agg #[.int .i64 a, .int .i64 b, .int .i64 c, .int .i64 d]) (by simp [results, Try.results12, go_sem]) rfl ⟨rfl, ?_⟩
  exact below_alloc3 _ _ _ _

set_option maxHeartbeats 1000000 in
theorem eqCubic_yes (a b c d : Int) (w : World) : Calls Try.prog 27 #[.agg #[.int .i64 a, .int .i64 b, .int .i64 c, .int .i64 d], .agg #[.int .i64 a, .int .i64 b, .int .i64 c, .int .i64 d]] w (GivesB w true) := by
  have h2 : Below w.heap.size w ((w.alloc (.cells #[.int .i64 a, .int .i64 b, .int .i64 c, .int .i64 d] 25)).alloc (.cells #[.int .i64 a, .int .i64 b, .int .i64 c, .int .i64 d] 25)) := below_alloc2 _ _ _
  have e0 : (a != a) = false := by simp
  have e1 : (b != b) = false := by simp
  have e2 : (c != c) = false := by simp
  have e3 : (d != d) = false := by simp
  go_enter Try.func27, Try.ntmps27
  go_wp2
  go_ret
  exact ⟨rfl, h2⟩
end Go.Proofs.Ytjjdjhehdobmnaa
