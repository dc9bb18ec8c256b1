/- Cores of exact laws: true if the model and the program hand back the same (written by wip/gen/genlaw.py). -/
import Derived.Test.YtoekhkppjccceaaDoorEcLaw0
import Derived.Test.YtoekhkppjccceaaDoorEcTx
import Derived.Deep.DeepCutAuto
import Derived.Deep.RegionHeld3
namespace Go.Proofs.YtoekhkppjccceaaDoor
open Go.RowKit Go.Joins

set_option maxHeartbeats 4000000 in
set_option maxRecDepth 100000 in
theorem lawCurveText_core (a0 b0 : Int) (w : World) (hL : Pow w)  (rt : ByteArray) (ok : Bool)
    (hS : ∀ (W : World), Calls Tryd.prog 5 #[.agg #[.int .i64 a0, .int .i64 b0]] W (GivesSB W rt ok))
    (hI : ∀ (W : World), Pow W → Calls Tryd.prog 7 #[.agg #[.int .i64 a0, .int .i64 b0]] W (GivesSB W rt ok)) :
    Calls Tryd.prog 3 #[.agg #[.int .i64 a0, .int .i64 b0]] w fun e w' => e = .returned (.bool true) ∧ Below w.heap.size w w' := by
  replace hS := Lib.hid hS
  replace hI := Lib.hid hI
  have eok : (ok != ok) = false := by simp
  have h := Below.refl w.heap.size w
  have hA := below_alloc1 w (.cells #[.int .i64 a0, .int .i64 b0] 23)
  replace h := Below.step h hA
  have hxa := Box.new w 23 #[.int .i64 a0, .int .i64 b0]
  clear hA
  go_enter Tryd.func3, Tryd.ntmps3
  obtain ⟨kaa, kba⟩ := hxa.two
  have kla := hxa.lt
  go_wp2_with fail
  refine (toCurve_any a0 b0 _).mono ?_
  rintro e w1 ⟨rfl, hb⟩
  replace h := Below.step h hb
  replace hxa := hxa.kept hb
  clear hb kaa kba kla
  obtain ⟨kaa, kba⟩ := hxa.two
  have kla := hxa.lt
  go_wp2_with fail
  refine (hS.out _).mono ?_
  rintro e w2 ⟨rfl, hb⟩
  replace h := Below.step h hb
  replace hxa := hxa.kept hb
  clear hb kaa kba kla
  obtain ⟨kaa, kba⟩ := hxa.two
  have kla := hxa.lt
  go_wp2_with fail
  refine (toCurve_any a0 b0 _).mono ?_
  rintro e w3 ⟨rfl, hb⟩
  replace h := Below.step h hb
  replace hxa := hxa.kept hb
  clear hb kaa kba kla
  obtain ⟨kaa, kba⟩ := hxa.two
  have kla := hxa.lt
  go_wp2_with fail
  refine (hI.out _ (by exact hL.kept h)).mono ?_
  rintro e w4 ⟨rfl, hb⟩
  replace h := Below.step h hb
  replace hxa := hxa.kept hb
  clear hb kaa kba kla
  obtain ⟨kaa, kba⟩ := hxa.two
  have kla := hxa.lt
  go_wp2
  go_ret
  exact ⟨rfl, h⟩
end Go.Proofs.YtoekhkppjccceaaDoor
