/- The core of the law of FractionText (written by wip/gen/frlaw.py): it answers true if the model and the program hand back the same. -/
import Derived.Test.YtfohikeboiffkaaDoorFrLaw0
import Derived.Test.YtfohikeboiffkaaDoorTxText
import Derived.Deep.RegionHeld3
import Derived.Deep.DeepCutAuto
namespace Go.Proofs.YtfohikeboiffkaaDoor
open Go.RowKit Go.Joins

set_option maxHeartbeats 4000000 in
set_option maxRecDepth 100000 in
theorem lawFractionText_core (p0 q0 : Int) (w : World) (hL : Env w) (rs : ByteArray) (b0 : Bool)
    (hS : ∀ W : World, Calls Tryd.prog 6 #[.agg #[.int .i64 p0, .int .i64 q0]] W (GivesSB W rs b0))
    (hI : ∀ W : World, Env W → Calls Tryd.prog 8 #[.agg #[.int .i64 p0, .int .i64 q0]] W (GivesSB W rs b0)) :
    Calls Tryd.prog 3 #[.agg #[.int .i64 p0, .int .i64 q0]] w fun e w' => e = .returned (.bool true) ∧ Below w.heap.size w w' := by
  replace hS := Lib.hid hS
  replace hI := Lib.hid hI
  have eb0 : (b0 != b0) = false := by simp
  have h := Below.refl w.heap.size w
  have hA := below_alloc1 w (.cells #[.int .i64 p0, .int .i64 q0] 23)
  replace h := Below.step h hA
  have hxa0 := Box.new w 23 #[.int .i64 p0, .int .i64 q0]
  clear hA
  go_enter Tryd.func3, Tryd.ntmps3
  obtain ⟨kaa0, kba0⟩ := hxa0.two
  have kla0 := hxa0.lt
  go_wp2_with fail
  refine (toFraction_any p0 q0 _).mono ?_
  rintro e w1 ⟨rfl, hb⟩
  replace h := Below.step h hb
  replace hxa0 := hxa0.kept hb
  clear hb kaa0 kba0 kla0
  obtain ⟨kaa0, kba0⟩ := hxa0.two
  have kla0 := hxa0.lt
  go_wp2_with fail
  refine (hS.out _).mono ?_
  rintro e w2 ⟨rfl, hb⟩
  replace h := Below.step h hb
  replace hxa0 := hxa0.kept hb
  clear hb kaa0 kba0 kla0
  obtain ⟨kaa0, kba0⟩ := hxa0.two
  have kla0 := hxa0.lt
  go_wp2_with fail
  refine (toFraction_any p0 q0 _).mono ?_
  rintro e w3 ⟨rfl, hb⟩
  replace h := Below.step h hb
  replace hxa0 := hxa0.kept hb
  clear hb kaa0 kba0 kla0
  obtain ⟨kaa0, kba0⟩ := hxa0.two
  have kla0 := hxa0.lt
  go_wp2_with fail
  refine (hI.out _ (by exact hL.kept h)).mono ?_
  rintro e w4 ⟨rfl, hb⟩
  replace h := Below.step h hb
  replace hxa0 := hxa0.kept hb
  clear hb kaa0 kba0 kla0
  go_wp2
  go_ret
  exact ⟨rfl, h⟩
end Go.Proofs.YtfohikeboiffkaaDoor
