/- FnFractionParts: the law. -/
import Derived.Test.YtchglkcfolannabDoorFpLaw
import Derived.Test.YtchglkcfolannabDoorFpSi
namespace Go.Proofs.YtchglkcfolannabDoor
open Go.RowKit Go.Joins

set_option maxHeartbeats 1000000 in
set_option maxRecDepth 100000 in
theorem fnParts_big (A A' : Option Addr) (n c n' c' : Nat) (w : World) (hs : (1048576 : Int) < wrap64 ((n : Int) + n')) :
    Calls Tryd.prog 3 #[.slice A n c, .slice A' n' c'] w fun e w' => e = .returned (.bool true) ∧ Below w.heap.size w w' := by
  obtain ⟨s, hsw⟩ : ∃ s, s = wrap64 ((n : Int) + n') := ⟨_, rfl⟩
  rw [← hsw] at hs
  have hsw' : wrap64 ((n : Int) + n') = s := hsw.symm
  clear hsw
  go_enter Tryd.func3, Tryd.ntmps3
  go_wp2_with fail
  go_ret
  exact ⟨rfl, Below.refl _ _⟩

theorem lawFnFractionParts_any (A : Option Addr) (n c : Nat) (A' : Option Addr) (n' c' : Nat) (w : World) (hL : EnvC w) (hn : n ≤ 9223372036854775807) (hr : RdB w w.heap.size A n) (hn' : n' ≤ 9223372036854775807) (hr' : RdB w w.heap.size A' n') :
    Calls Tryd.prog 3 #[.slice A n c, .slice A' n' c'] w fun e w' => e = .returned (.bool true) ∧ Below w.heap.size w w' := by
  by_cases hs : (1048576 : Int) < wrap64 ((n : Int) + n')
  · exact fnParts_big A A' n c n' c' w hs
  · refine fnParts_walk A A' n c n' c' w hL hn hn' hr hr' hs fun W hW => (drawSimp_any A' n' c' W hn' hW).mono ?_
    rintro e w' ⟨x0, x1, y0, y1, -, -, -, -, h1, h2⟩
    exact ⟨x0, x1, y0, y1, h1, h2⟩
end Go.Proofs.YtchglkcfolannabDoor
