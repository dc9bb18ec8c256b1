/- The core of the law of SquareRootOf (written by wip/gen/frlaw.py): it answers true if the model and the program hand back the same. -/
import Derived.Test.YtjkbpcigpfahjaaDoorFrLaw0
import Derived.Deep.RegionHeld3
import Derived.Deep.DeepCutAuto
namespace Go.Proofs.YtjkbpcigpfahjaaDoor
open Go.RowKit Go.Joins

set_option maxHeartbeats 4000000 in
set_option maxRecDepth 100000 in
theorem lawSquareRootOf_core (p0 q0 : Int) (w : World) (hL : Lim w) (rp rq : Int) (b0 : Bool)
    (hS : ∀ W : World, Calls Tryd.prog 21 #[.agg #[.int .i64 p0, .int .i64 q0]] W (GivesFB W rp rq b0))
    (hI : ∀ W : World, Lim W → Calls Tryd.prog 22 #[.agg #[.int .i64 p0, .int .i64 q0]] W (GivesFB W rp rq b0)) :
    Calls Tryd.prog 8 #[.agg #[.int .i64 p0, .int .i64 q0]] w fun e w' => e = .returned (.bool true) ∧ Below w.heap.size w w' := by
  replace hS := Lib.hid hS
  replace hI := Lib.hid hI
  have eb0 : (b0 != b0) = false := by simp
  have h := Below.refl w.heap.size w
  have hA := below_alloc1 w (.cells #[.int .i64 p0, .int .i64 q0] 28)
  replace h := Below.step h hA
  have hxa0 := Box.new w 28 #[.int .i64 p0, .int .i64 q0]
  clear hA
  go_enter Tryd.func8, Tryd.ntmps8
  obtain ⟨kaa0, kba0⟩ := hxa0.two
  have kla0 := hxa0.lt
  go_wp2_with fail
  refine (toFraction_any p0 q0 _).mono ?_
  rintro e w1 ⟨rfl, hb⟩
  replace h := Below.step h hb
  replace hxa0 := hxa0.kept hb
  clear hb kaa0 kba0 kla0
  obtain ⟨kaa0, kba0⟩ := hxa0.two
  have kla0 := hxa0.lt
  go_wp2_with fail
  refine (hS.out _).mono ?_
  rintro e w2 ⟨rfl, hb⟩
  replace h := Below.step h hb
  replace hxa0 := hxa0.kept hb
  clear hb kaa0 kba0 kla0
  obtain ⟨kaa0, kba0⟩ := hxa0.two
  have kla0 := hxa0.lt
  go_wp2_with fail
  have hA := below_alloc1 w2 (.cells #[.int .i64 rp, .int .i64 rq] 23)
  have hxw := Box.new w2 23 #[.int .i64 rp, .int .i64 rq]
  replace h := Below.step h hA
  replace hxa0 := hxa0.kept hA
  clear hA kaa0 kba0 kla0
  generalize w2.alloc (.cells #[.int .i64 rp, .int .i64 rq] 23) = w3 at *
  generalize w2.heap.size = gw at hxw ⊢
  obtain ⟨kaa0, kba0⟩ := hxa0.two
  have kla0 := hxa0.lt
  obtain ⟨kaw, kbw⟩ := hxw.two
  have klw := hxw.lt
  go_wp2_with fail
  refine (toFraction_any p0 q0 _).mono ?_
  rintro e w4 ⟨rfl, hb⟩
  replace h := Below.step h hb
  replace hxa0 := hxa0.kept hb
  replace hxw := hxw.kept hb
  clear hb kaa0 kba0 kla0 kaw kbw klw
  obtain ⟨kaa0, kba0⟩ := hxa0.two
  have kla0 := hxa0.lt
  obtain ⟨kaw, kbw⟩ := hxw.two
  have klw := hxw.lt
  go_wp2_with fail
  refine (hI.out _ (by exact hL.kept h)).mono ?_
  rintro e w5 ⟨rfl, hb⟩
  replace h := Below.step h hb
  replace hxa0 := hxa0.kept hb
  replace hxw := hxw.kept hb
  clear hb kaa0 kba0 kla0 kaw kbw klw
  obtain ⟨kaa0, kba0⟩ := hxa0.two
  have kla0 := hxa0.lt
  obtain ⟨kaw, kbw⟩ := hxw.two
  have klw := hxw.lt
  go_wp2_with fail
  have hA := below_alloc1 w5 (.cells #[.int .i64 rp, .int .i64 rq] 23)
  have hxg := Box.new w5 23 #[.int .i64 rp, .int .i64 rq]
  replace h := Below.step h hA
  replace hxa0 := hxa0.kept hA
  replace hxw := hxw.kept hA
  clear hA kaa0 kba0 kla0 kaw kbw klw
  generalize w5.alloc (.cells #[.int .i64 rp, .int .i64 rq] 23) = w6 at *
  generalize w5.heap.size = gg at hxg ⊢
  obtain ⟨kaa0, kba0⟩ := hxa0.two
  have kla0 := hxa0.lt
  obtain ⟨kaw, kbw⟩ := hxw.two
  have klw := hxw.lt
  obtain ⟨kag, kbg⟩ := hxg.two
  have klg := hxg.lt
  go_wp2_with fail
  refine (eqFraction_yes rp rq _).mono ?_
  rintro e w7 ⟨rfl, hb⟩
  replace h := Below.step h hb
  replace hxa0 := hxa0.kept hb
  replace hxw := hxw.kept hb
  replace hxg := hxg.kept hb
  clear hb kaa0 kba0 kla0 kaw kbw klw kag kbg klg
  go_wp2
  go_ret
  exact ⟨rfl, h⟩
end Go.Proofs.YtjkbpcigpfahjaaDoor
