/- Cores of exact laws: true if the model and the program hand back the same (written by wip/gen/genlaw.py). -/
import Derived.Test.YtjamckcbgcejdaaDoorCuLaw0
import Derived.Test.YtjamckcbgcejdaaDoorFrLaw0
import Derived.Test.YtjamckcbgcejdaaDoorCuIrrI
import Derived.Deep.DeepCutAuto
import Derived.Deep.RegionHeld3
namespace Go.Proofs.YtjamckcbgcejdaaDoor
open Go.RowKit Go.Joins

set_option maxHeartbeats 4000000 in
set_option maxRecDepth 100000 in
theorem lawIsIrreducibleCubic_core (a0 b0 c0 d0 : Int) (w : World) (hL : Lim w)  (ok : Bool) (ok1 : Bool)
    (hS : ∀ (W : World), Calls Tryd.prog 19 #[.agg #[.int .i64 a0, .int .i64 b0, .int .i64 c0, .int .i64 d0]] W (GivesBB W ok ok1))
    (hI : ∀ (W : World), Lim W → Calls Tryd.prog 20 #[.agg #[.int .i64 a0, .int .i64 b0, .int .i64 c0, .int .i64 d0]] W (GivesBB W ok ok1)) :
    Calls Tryd.prog 6 #[.agg #[.int .i64 a0, .int .i64 b0, .int .i64 c0, .int .i64 d0]] w fun e w' => e = .returned (.bool true) ∧ Below w.heap.size w w' := by
  replace hS := Lib.hid hS
  replace hI := Lib.hid hI
  have eok : (ok != ok) = false := by simp
  have eok1 : (ok1 != ok1) = false := by simp
  have h := Below.refl w.heap.size w
  have hA := below_alloc1 w (.cells #[.int .i64 a0, .int .i64 b0, .int .i64 c0, .int .i64 d0] 23)
  replace h := Below.step h hA
  have hxa := Box.new w 23 #[.int .i64 a0, .int .i64 b0, .int .i64 c0, .int .i64 d0]
  clear hA
  go_enter Tryd.func6, Tryd.ntmps6
  obtain ⟨kaa, kba, kca, kda⟩ := hxa.four
  have kla := hxa.lt
  go_wp2_with fail
  refine (toCubic_any a0 b0 c0 d0 _).mono ?_
  rintro e w1 ⟨rfl, hb⟩
  replace h := Below.step h hb
  replace hxa := hxa.kept hb
  clear hb kaa kba kca kda kla
  obtain ⟨kaa, kba, kca, kda⟩ := hxa.four
  have kla := hxa.lt
  go_wp2_with fail
  refine (hS.out _).mono ?_
  rintro e w2 ⟨rfl, hb⟩
  replace h := Below.step h hb
  replace hxa := hxa.kept hb
  clear hb kaa kba kca kda kla
  obtain ⟨kaa, kba, kca, kda⟩ := hxa.four
  have kla := hxa.lt
  go_wp2_with fail
  refine (toCubic_any a0 b0 c0 d0 _).mono ?_
  rintro e w3 ⟨rfl, hb⟩
  replace h := Below.step h hb
  replace hxa := hxa.kept hb
  clear hb kaa kba kca kda kla
  obtain ⟨kaa, kba, kca, kda⟩ := hxa.four
  have kla := hxa.lt
  go_wp2_with fail
  refine (hI.out _ (by exact hL.kept h)).mono ?_
  rintro e w4 ⟨rfl, hb⟩
  replace h := Below.step h hb
  replace hxa := hxa.kept hb
  clear hb kaa kba kca kda kla
  obtain ⟨kaa, kba, kca, kda⟩ := hxa.four
  have kla := hxa.lt
  go_wp2
  go_ret
  exact ⟨rfl, h⟩
end Go.Proofs.YtjamckcbgcejdaaDoor
