/- What the laws over fractions share: a law's fraction turned into the program's, two fractions compared. -/
import Derived.Test.YtjkbpcigpfahjaaDoorFrGcd
import Derived.Deep.DeepCutAuto
namespace Go.Proofs.YtjkbpcigpfahjaaDoor
open Go.RowKit Go.Joins

set_option maxHeartbeats 400000 in
theorem toFraction_any (p q : Int) (w : World) : Calls Tryd.prog 13 #[.agg #[.int .i64 p, .int .i64 q]] w (GivesF w p q) := by
  go_enter Tryd.func13, Tryd.ntmps13
  go_wp2
  refine bodyPost_ret (v := .agg #[.int .i64 p, .int .i64 q]) (by simp [results, Tryd.results13, go_sem]) rfl ⟨rfl, ?_⟩
  exact below_alloc3 _ _ _ _

set_option maxHeartbeats 400000 in
theorem eqFraction_yes (p q : Int) (w : World) : Calls Tryd.prog 11 #[.agg #[.int .i64 p, .int .i64 q], .agg #[.int .i64 p, .int .i64 q]] w (GivesB w true) := by
  have h2 : Below w.heap.size w ((w.alloc (.cells #[.int .i64 p, .int .i64 q] 23)).alloc (.cells #[.int .i64 p, .int .i64 q] 23)) := below_alloc2 _ _ _
  have e0 : (p != p) = false := by simp
  have e1 : (q != q) = false := by simp
  go_enter Tryd.func11, Tryd.ntmps11
  go_wp2
  go_ret
  exact ⟨rfl, h2⟩
end Go.Proofs.YtjkbpcigpfahjaaDoor
