/- frInt of the model (own work). -/
import Derived.Test.YtchglkcfolannabDoorFrBox
namespace Go.Proofs.YtchglkcfolannabDoor
open Go.RowKit Go.Joins

set_option maxHeartbeats 400000 in
theorem frInt_any (z : Int) (w : World) : Calls Tryd.prog 59 #[.int .i64 z] w (GivesF w z 1) := by
  go_enter Tryd.func59, Tryd.ntmps59
  go_wp2
  refine bodyPost_ret (v := .agg #[.int .i64 z, .int .i64 1]) (by simp [results, Tryd.results59, go_sem]) rfl ⟨rfl, ?_⟩
  exact below_alloc1 _ _

end Go.Proofs.YtchglkcfolannabDoor
