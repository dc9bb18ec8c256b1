/- The core of the law of FractionOf (written by wip/gen/frlaw.py): it answers true if the model and the program hand back the same. -/
import Derived.Test.YtjkbpcigpfahjaaDoorFrLaw0
import Derived.Deep.RegionHeld3
import Derived.Deep.DeepCutAuto
namespace Go.Proofs.YtjkbpcigpfahjaaDoor
open Go.RowKit Go.Joins

set_option maxHeartbeats 4000000 in
set_option maxRecDepth 100000 in
theorem lawFractionOf_core (z0 : Int) (z1 : Int) (w : World) (hL : Lim w) (rp rq : Int) (b0 : Bool)
    (hS : ∀ W : World, Calls Tryd.prog 9 #[.int .i64 z0, .int .i64 z1] W (GivesFB W rp rq b0))
    (hI : ∀ W : World, Lim W → Calls Tryd.prog 10 #[.int .i64 z0, .int .i64 z1] W (GivesFB W rp rq b0)) :
    Calls Tryd.prog 3 #[.int .i64 z0, .int .i64 z1] w fun e w' => e = .returned (.bool true) ∧ Below w.heap.size w w' := by
  replace hS := Lib.hid hS
  replace hI := Lib.hid hI
  have eb0 : (b0 != b0) = false := by simp
  have h := Below.refl w.heap.size w
  go_enter Tryd.func3, Tryd.ntmps3
  go_wp2_with fail
  refine (hS.out _).mono ?_
  rintro e w1 ⟨rfl, hb⟩
  replace h := Below.step h hb
  clear hb
  go_wp2_with fail
  have hA := below_alloc1 w1 (.cells #[.int .i64 rp, .int .i64 rq] 23)
  have hxw := Box.new w1 23 #[.int .i64 rp, .int .i64 rq]
  replace h := Below.step h hA
  clear hA
  generalize w1.alloc (.cells #[.int .i64 rp, .int .i64 rq] 23) = w2 at *
  generalize w1.heap.size = gw at hxw ⊢
  obtain ⟨kaw, kbw⟩ := hxw.two
  have klw := hxw.lt
  go_wp2_with fail
  refine (hI.out _ (by exact hL.kept h)).mono ?_
  rintro e w3 ⟨rfl, hb⟩
  replace h := Below.step h hb
  replace hxw := hxw.kept hb
  clear hb kaw kbw klw
  obtain ⟨kaw, kbw⟩ := hxw.two
  have klw := hxw.lt
  go_wp2_with fail
  have hA := below_alloc1 w3 (.cells #[.int .i64 rp, .int .i64 rq] 23)
  have hxg := Box.new w3 23 #[.int .i64 rp, .int .i64 rq]
  replace h := Below.step h hA
  replace hxw := hxw.kept hA
  clear hA kaw kbw klw
  generalize w3.alloc (.cells #[.int .i64 rp, .int .i64 rq] 23) = w4 at *
  generalize w3.heap.size = gg at hxg ⊢
  obtain ⟨kaw, kbw⟩ := hxw.two
  have klw := hxw.lt
  obtain ⟨kag, kbg⟩ := hxg.two
  have klg := hxg.lt
  go_wp2_with fail
  refine (eqFraction_yes rp rq _).mono ?_
  rintro e w5 ⟨rfl, hb⟩
  replace h := Below.step h hb
  replace hxw := hxw.kept hb
  replace hxg := hxg.kept hb
  clear hb kaw kbw klw kag kbg klg
  go_wp2
  go_ret
  exact ⟨rfl, h⟩
end Go.Proofs.YtjkbpcigpfahjaaDoor
