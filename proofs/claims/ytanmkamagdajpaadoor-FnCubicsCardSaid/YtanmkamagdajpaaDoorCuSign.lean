/- l1Sign of the model (own work). -/
import Derived.Test.YtanmkamagdajpaaDoorCuBox
namespace Go.Proofs.YtanmkamagdajpaaDoor
open Go.RowKit Go.Joins

set_option maxHeartbeats 400000 in
theorem l1Sign_pos (z : Int) (w : World) (h : 0 < z) : Calls Tryd.prog 41 #[.int .i64 z] w fun e w' => e = .returned (.int .i64 1) ∧ w = w' := by
  go_enter Tryd.func41, Tryd.ntmps41
  go_wp2_with fail
  go_ret
  exact ⟨rfl, rfl⟩
set_option maxHeartbeats 400000 in
theorem l1Sign_neg (z : Int) (w : World) (h : z < 0) : Calls Tryd.prog 41 #[.int .i64 z] w fun e w' => e = .returned (.int .i64 (-1)) ∧ w = w' := by
  have h0 : ¬ 0 < z := by omega
  go_enter Tryd.func41, Tryd.ntmps41
  go_wp2_with fail
  go_ret
  exact ⟨rfl, rfl⟩
set_option maxHeartbeats 400000 in
theorem l1Sign_zero (w : World) : Calls Tryd.prog 41 #[.int .i64 0] w fun e w' => e = .returned (.int .i64 0) ∧ w = w' := by
  go_enter Tryd.func41, Tryd.ntmps41
  go_wp2_with fail
  go_ret
  exact ⟨rfl, rfl⟩
def sgn (z : Int) : Int := if 0 < z then 1 else if z < 0 then -1 else 0
theorem l1Sign_any (z : Int) (w : World) : Calls Tryd.prog 41 #[.int .i64 z] w fun e w' => e = .returned (.int .i64 (sgn z)) ∧ w = w' := by
  unfold sgn
  by_cases h : 0 < z
  · rw [if_pos h]; exact l1Sign_pos z w h
  · rw [if_neg h]
    by_cases h2 : z < 0
    · rw [if_pos h2]; exact l1Sign_neg z w h2
    · rw [if_neg h2]
      obtain rfl : z = 0 := by omega
      exact l1Sign_zero w
end Go.Proofs.YtanmkamagdajpaaDoor
