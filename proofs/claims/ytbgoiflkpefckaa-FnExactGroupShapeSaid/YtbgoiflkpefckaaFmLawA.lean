/- Cores of exact laws: true if the model and the program hand back the same (written by wip/gen/genlaw.py). -/
import Derived.Test.YtbgoiflkpefckaaEcLaw0
import Derived.Test.YtbgoiflkpefckaaFmI1
import Derived.Deep.DeepCutAuto
import Derived.Deep.RegionHeld3
namespace Go.Proofs.Ytbgoiflkpefckaa
open Go.RowKit Go.Joins

set_option maxHeartbeats 4000000 in
set_option maxRecDepth 100000 in
theorem lawIsGoodPrime_core (a0 b0 : Int) (z1 : Int) (w : World)  (ok : Bool) (ok1 : Bool)
    (hS : ∀ (W : World), Calls Try.prog 13 #[.agg #[.int .i64 a0, .int .i64 b0], .int .i64 z1] W (GivesBB W ok ok1))
    (hI : ∀ (W : World), Calls Try.prog 15 #[.agg #[.int .i64 a0, .int .i64 b0], .int .i64 z1] W (GivesBB W ok ok1)) :
    Calls Try.prog 3 #[.agg #[.int .i64 a0, .int .i64 b0], .int .i64 z1] w fun e w' => e = .returned (.bool true) ∧ Below w.heap.size w w' := by
  replace hS := Lib.hid hS
  replace hI := Lib.hid hI
  have eok : (ok != ok) = false := by simp
  have eok1 : (ok1 != ok1) = false := by simp
  have h := Below.refl w.heap.size w
  have hA := below_alloc1 w (.cells #[.int .i64 a0, .int .i64 b0] 23)
  replace h := Below.step h hA
  have hxa := Box.new w 23 #[.int .i64 a0, .int .i64 b0]
  clear hA
  go_enter Try.func3, Try.ntmps3
  obtain ⟨kaa, kba⟩ := hxa.two
  have kla := hxa.lt
  go_wp2_with fail
  refine (toCurve_any a0 b0 _).mono ?_
  rintro e w1 ⟨rfl, hb⟩
  replace h := Below.step h hb
  replace hxa := hxa.kept hb
  clear hb kaa kba kla
  obtain ⟨kaa, kba⟩ := hxa.two
  have kla := hxa.lt
  go_wp2_with fail
  refine (hS.out _).mono ?_
  rintro e w2 ⟨rfl, hb⟩
  replace h := Below.step h hb
  replace hxa := hxa.kept hb
  clear hb kaa kba kla
  obtain ⟨kaa, kba⟩ := hxa.two
  have kla := hxa.lt
  go_wp2_with fail
  refine (toCurve_any a0 b0 _).mono ?_
  rintro e w3 ⟨rfl, hb⟩
  replace h := Below.step h hb
  replace hxa := hxa.kept hb
  clear hb kaa kba kla
  obtain ⟨kaa, kba⟩ := hxa.two
  have kla := hxa.lt
  go_wp2_with fail
  refine (hI.out _).mono ?_
  rintro e w4 ⟨rfl, hb⟩
  replace h := Below.step h hb
  replace hxa := hxa.kept hb
  clear hb kaa kba kla
  obtain ⟨kaa, kba⟩ := hxa.two
  have kla := hxa.lt
  go_wp2
  go_ret
  exact ⟨rfl, h⟩

set_option maxHeartbeats 4000000 in
set_option maxRecDepth 100000 in
theorem lawCountPoints_core (a0 b0 : Int) (z1 : Int) (w : World)  (ri : Int) (ok : Bool)
    (hS : ∀ (W : World), Calls Try.prog 16 #[.agg #[.int .i64 a0, .int .i64 b0], .int .i64 z1] W (GivesIB W ri ok))
    (hI : ∀ (W : World), Calls Try.prog 17 #[.agg #[.int .i64 a0, .int .i64 b0], .int .i64 z1] W (GivesIB W ri ok)) :
    Calls Try.prog 4 #[.agg #[.int .i64 a0, .int .i64 b0], .int .i64 z1] w fun e w' => e = .returned (.bool true) ∧ Below w.heap.size w w' := by
  replace hS := Lib.hid hS
  replace hI := Lib.hid hI
  have eri : (ri != ri) = false := by simp
  have eok : (ok != ok) = false := by simp
  have h := Below.refl w.heap.size w
  have hA := below_alloc1 w (.cells #[.int .i64 a0, .int .i64 b0] 23)
  replace h := Below.step h hA
  have hxa := Box.new w 23 #[.int .i64 a0, .int .i64 b0]
  clear hA
  go_enter Try.func4, Try.ntmps4
  obtain ⟨kaa, kba⟩ := hxa.two
  have kla := hxa.lt
  go_wp2_with fail
  refine (toCurve_any a0 b0 _).mono ?_
  rintro e w1 ⟨rfl, hb⟩
  replace h := Below.step h hb
  replace hxa := hxa.kept hb
  clear hb kaa kba kla
  obtain ⟨kaa, kba⟩ := hxa.two
  have kla := hxa.lt
  go_wp2_with fail
  refine (hS.out _).mono ?_
  rintro e w2 ⟨rfl, hb⟩
  replace h := Below.step h hb
  replace hxa := hxa.kept hb
  clear hb kaa kba kla
  obtain ⟨kaa, kba⟩ := hxa.two
  have kla := hxa.lt
  go_wp2_with fail
  refine (toCurve_any a0 b0 _).mono ?_
  rintro e w3 ⟨rfl, hb⟩
  replace h := Below.step h hb
  replace hxa := hxa.kept hb
  clear hb kaa kba kla
  obtain ⟨kaa, kba⟩ := hxa.two
  have kla := hxa.lt
  go_wp2_with fail
  refine (hI.out _).mono ?_
  rintro e w4 ⟨rfl, hb⟩
  replace h := Below.step h hb
  replace hxa := hxa.kept hb
  clear hb kaa kba kla
  obtain ⟨kaa, kba⟩ := hxa.two
  have kla := hxa.lt
  go_wp2
  go_ret
  exact ⟨rfl, h⟩

set_option maxHeartbeats 4000000 in
set_option maxRecDepth 100000 in
theorem lawGroupShape_core (a0 b0 : Int) (z1 : Int) (w : World)  (ri : Int) (ri1 : Int) (ok : Bool)
    (hS : ∀ (W : World), Calls Try.prog 37 #[.agg #[.int .i64 a0, .int .i64 b0], .int .i64 z1] W (GivesIIB W ri ri1 ok))
    (hI : ∀ (W : World), Calls Try.prog 38 #[.agg #[.int .i64 a0, .int .i64 b0], .int .i64 z1] W (GivesIIB W ri ri1 ok)) :
    Calls Try.prog 11 #[.agg #[.int .i64 a0, .int .i64 b0], .int .i64 z1] w fun e w' => e = .returned (.bool true) ∧ Below w.heap.size w w' := by
  replace hS := Lib.hid hS
  replace hI := Lib.hid hI
  have eri : (ri != ri) = false := by simp
  have eri1 : (ri1 != ri1) = false := by simp
  have eok : (ok != ok) = false := by simp
  have h := Below.refl w.heap.size w
  have hA := below_alloc1 w (.cells #[.int .i64 a0, .int .i64 b0] 23)
  replace h := Below.step h hA
  have hxa := Box.new w 23 #[.int .i64 a0, .int .i64 b0]
  clear hA
  go_enter Try.func11, Try.ntmps11
  obtain ⟨kaa, kba⟩ := hxa.two
  have kla := hxa.lt
  go_wp2_with fail
  refine (toCurve_any a0 b0 _).mono ?_
  rintro e w1 ⟨rfl, hb⟩
  replace h := Below.step h hb
  replace hxa := hxa.kept hb
  clear hb kaa kba kla
  obtain ⟨kaa, kba⟩ := hxa.two
  have kla := hxa.lt
  go_wp2_with fail
  refine (hS.out _).mono ?_
  rintro e w2 ⟨rfl, hb⟩
  replace h := Below.step h hb
  replace hxa := hxa.kept hb
  clear hb kaa kba kla
  obtain ⟨kaa, kba⟩ := hxa.two
  have kla := hxa.lt
  go_wp2_with fail
  refine (toCurve_any a0 b0 _).mono ?_
  rintro e w3 ⟨rfl, hb⟩
  replace h := Below.step h hb
  replace hxa := hxa.kept hb
  clear hb kaa kba kla
  obtain ⟨kaa, kba⟩ := hxa.two
  have kla := hxa.lt
  go_wp2_with fail
  refine (hI.out _).mono ?_
  rintro e w4 ⟨rfl, hb⟩
  replace h := Below.step h hb
  replace hxa := hxa.kept hb
  clear hb kaa kba kla
  obtain ⟨kaa, kba⟩ := hxa.two
  have kla := hxa.lt
  go_wp2
  go_ret
  exact ⟨rfl, h⟩

set_option maxHeartbeats 4000000 in
set_option maxRecDepth 100000 in
theorem lawCountOrders_core (a0 b0 : Int) (z1 : Int) (z2 : Int) (w : World)  (ri : Int) (ok : Bool)
    (hS : ∀ (W : World), Calls Try.prog 39 #[.agg #[.int .i64 a0, .int .i64 b0], .int .i64 z1, .int .i64 z2] W (GivesIB W ri ok))
    (hI : ∀ (W : World), Calls Try.prog 40 #[.agg #[.int .i64 a0, .int .i64 b0], .int .i64 z1, .int .i64 z2] W (GivesIB W ri ok)) :
    Calls Try.prog 12 #[.agg #[.int .i64 a0, .int .i64 b0], .int .i64 z1, .int .i64 z2] w fun e w' => e = .returned (.bool true) ∧ Below w.heap.size w w' := by
  replace hS := Lib.hid hS
  replace hI := Lib.hid hI
  have eri : (ri != ri) = false := by simp
  have eok : (ok != ok) = false := by simp
  have h := Below.refl w.heap.size w
  have hA := below_alloc1 w (.cells #[.int .i64 a0, .int .i64 b0] 23)
  replace h := Below.step h hA
  have hxa := Box.new w 23 #[.int .i64 a0, .int .i64 b0]
  clear hA
  go_enter Try.func12, Try.ntmps12
  obtain ⟨kaa, kba⟩ := hxa.two
  have kla := hxa.lt
  go_wp2_with fail
  refine (toCurve_any a0 b0 _).mono ?_
  rintro e w1 ⟨rfl, hb⟩
  replace h := Below.step h hb
  replace hxa := hxa.kept hb
  clear hb kaa kba kla
  obtain ⟨kaa, kba⟩ := hxa.two
  have kla := hxa.lt
  go_wp2_with fail
  refine (hS.out _).mono ?_
  rintro e w2 ⟨rfl, hb⟩
  replace h := Below.step h hb
  replace hxa := hxa.kept hb
  clear hb kaa kba kla
  obtain ⟨kaa, kba⟩ := hxa.two
  have kla := hxa.lt
  go_wp2_with fail
  refine (toCurve_any a0 b0 _).mono ?_
  rintro e w3 ⟨rfl, hb⟩
  replace h := Below.step h hb
  replace hxa := hxa.kept hb
  clear hb kaa kba kla
  obtain ⟨kaa, kba⟩ := hxa.two
  have kla := hxa.lt
  go_wp2_with fail
  refine (hI.out _).mono ?_
  rintro e w4 ⟨rfl, hb⟩
  replace h := Below.step h hb
  replace hxa := hxa.kept hb
  clear hb kaa kba kla
  obtain ⟨kaa, kba⟩ := hxa.two
  have kla := hxa.lt
  go_wp2
  go_ret
  exact ⟨rfl, h⟩
end Go.Proofs.Ytbgoiflkpefckaa
