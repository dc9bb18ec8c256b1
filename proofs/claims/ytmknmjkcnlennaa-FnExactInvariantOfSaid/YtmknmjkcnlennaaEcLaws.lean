/- Cores of exact laws: true if the model and the program hand back the same (written by wip/gen/genlaw.py). -/
import Derived.Test.YtmknmjkcnlennaaEcLaw0
import Derived.Test.YtmknmjkcnlennaaEcSm2
import Derived.Test.YtmknmjkcnlennaaEcSc
import Derived.Test.YtmknmjkcnlennaaEcInv
import Derived.Deep.DeepCutAuto
import Derived.Deep.RegionHeld3
namespace Go.Proofs.Ytmknmjkcnlennaa
open Go.RowKit Go.Joins

set_option maxHeartbeats 4000000 in
set_option maxRecDepth 100000 in
theorem lawIsCurve_core (a0 b0 : Int) (w : World)  (ok : Bool)
    (hS : ∀ (W : World), Calls Try.prog 13 #[.agg #[.int .i64 a0, .int .i64 b0]] W (GivesB W ok))
    (hI : ∀ (W : World), Calls Try.prog 15 #[.agg #[.int .i64 a0, .int .i64 b0]] W (GivesB W ok)) :
    Calls Try.prog 3 #[.agg #[.int .i64 a0, .int .i64 b0]] w fun e w' => e = .returned (.bool true) ∧ Below w.heap.size w w' := by
  replace hS := Lib.hid hS
  replace hI := Lib.hid hI
  have eok : (ok != ok) = false := by simp
  have h := Below.refl w.heap.size w
  have hA := below_alloc1 w (.cells #[.int .i64 a0, .int .i64 b0] 23)
  replace h := Below.step h hA
  have hxa := Box.new w 23 #[.int .i64 a0, .int .i64 b0]
  clear hA
  go_enter Try.func3, Try.ntmps3
  obtain ⟨kaa, kba⟩ := hxa.two
  have kla := hxa.lt
  go_wp2_with fail
  refine (toCurve_any a0 b0 _).mono ?_
  rintro e w1 ⟨rfl, hb⟩
  replace h := Below.step h hb
  replace hxa := hxa.kept hb
  clear hb kaa kba kla
  obtain ⟨kaa, kba⟩ := hxa.two
  have kla := hxa.lt
  go_wp2_with fail
  refine (hS.out _).mono ?_
  rintro e w2 ⟨rfl, hb⟩
  replace h := Below.step h hb
  replace hxa := hxa.kept hb
  clear hb kaa kba kla
  obtain ⟨kaa, kba⟩ := hxa.two
  have kla := hxa.lt
  go_wp2_with fail
  refine (toCurve_any a0 b0 _).mono ?_
  rintro e w3 ⟨rfl, hb⟩
  replace h := Below.step h hb
  replace hxa := hxa.kept hb
  clear hb kaa kba kla
  obtain ⟨kaa, kba⟩ := hxa.two
  have kla := hxa.lt
  go_wp2_with fail
  refine (hI.out _).mono ?_
  rintro e w4 ⟨rfl, hb⟩
  replace h := Below.step h hb
  replace hxa := hxa.kept hb
  clear hb kaa kba kla
  obtain ⟨kaa, kba⟩ := hxa.two
  have kla := hxa.lt
  go_wp2
  go_ret
  exact ⟨rfl, h⟩

set_option maxHeartbeats 4000000 in
set_option maxRecDepth 100000 in
theorem lawDiscriminantOf_core (a0 b0 : Int) (w : World)  (ri : Int) (ok : Bool)
    (hS : ∀ (W : World), Calls Try.prog 16 #[.agg #[.int .i64 a0, .int .i64 b0]] W (GivesIB W ri ok))
    (hI : ∀ (W : World), Calls Try.prog 17 #[.agg #[.int .i64 a0, .int .i64 b0]] W (GivesIB W ri ok)) :
    Calls Try.prog 4 #[.agg #[.int .i64 a0, .int .i64 b0]] w fun e w' => e = .returned (.bool true) ∧ Below w.heap.size w w' := by
  replace hS := Lib.hid hS
  replace hI := Lib.hid hI
  have eri : (ri != ri) = false := by simp
  have eok : (ok != ok) = false := by simp
  have h := Below.refl w.heap.size w
  have hA := below_alloc1 w (.cells #[.int .i64 a0, .int .i64 b0] 23)
  replace h := Below.step h hA
  have hxa := Box.new w 23 #[.int .i64 a0, .int .i64 b0]
  clear hA
  go_enter Try.func4, Try.ntmps4
  obtain ⟨kaa, kba⟩ := hxa.two
  have kla := hxa.lt
  go_wp2_with fail
  refine (toCurve_any a0 b0 _).mono ?_
  rintro e w1 ⟨rfl, hb⟩
  replace h := Below.step h hb
  replace hxa := hxa.kept hb
  clear hb kaa kba kla
  obtain ⟨kaa, kba⟩ := hxa.two
  have kla := hxa.lt
  go_wp2_with fail
  refine (hS.out _).mono ?_
  rintro e w2 ⟨rfl, hb⟩
  replace h := Below.step h hb
  replace hxa := hxa.kept hb
  clear hb kaa kba kla
  obtain ⟨kaa, kba⟩ := hxa.two
  have kla := hxa.lt
  go_wp2_with fail
  refine (toCurve_any a0 b0 _).mono ?_
  rintro e w3 ⟨rfl, hb⟩
  replace h := Below.step h hb
  replace hxa := hxa.kept hb
  clear hb kaa kba kla
  obtain ⟨kaa, kba⟩ := hxa.two
  have kla := hxa.lt
  go_wp2_with fail
  refine (hI.out _).mono ?_
  rintro e w4 ⟨rfl, hb⟩
  replace h := Below.step h hb
  replace hxa := hxa.kept hb
  clear hb kaa kba kla
  obtain ⟨kaa, kba⟩ := hxa.two
  have kla := hxa.lt
  go_wp2
  go_ret
  exact ⟨rfl, h⟩

set_option maxHeartbeats 4000000 in
set_option maxRecDepth 100000 in
theorem lawInvariantOf_core (a0 b0 : Int) (w : World)  (ri : Int) (ri1 : Int) (ok : Bool)
    (hS : ∀ (W : World), Calls Try.prog 18 #[.agg #[.int .i64 a0, .int .i64 b0]] W (GivesIIB W ri ri1 ok))
    (hI : ∀ (W : World), Calls Try.prog 19 #[.agg #[.int .i64 a0, .int .i64 b0]] W (GivesIIB W ri ri1 ok)) :
    Calls Try.prog 5 #[.agg #[.int .i64 a0, .int .i64 b0]] w fun e w' => e = .returned (.bool true) ∧ Below w.heap.size w w' := by
  replace hS := Lib.hid hS
  replace hI := Lib.hid hI
  have eri : (ri != ri) = false := by simp
  have eri1 : (ri1 != ri1) = false := by simp
  have eok : (ok != ok) = false := by simp
  have h := Below.refl w.heap.size w
  have hA := below_alloc1 w (.cells #[.int .i64 a0, .int .i64 b0] 23)
  replace h := Below.step h hA
  have hxa := Box.new w 23 #[.int .i64 a0, .int .i64 b0]
  clear hA
  go_enter Try.func5, Try.ntmps5
  obtain ⟨kaa, kba⟩ := hxa.two
  have kla := hxa.lt
  go_wp2_with fail
  refine (toCurve_any a0 b0 _).mono ?_
  rintro e w1 ⟨rfl, hb⟩
  replace h := Below.step h hb
  replace hxa := hxa.kept hb
  clear hb kaa kba kla
  obtain ⟨kaa, kba⟩ := hxa.two
  have kla := hxa.lt
  go_wp2_with fail
  refine (hS.out _).mono ?_
  rintro e w2 ⟨rfl, hb⟩
  replace h := Below.step h hb
  replace hxa := hxa.kept hb
  clear hb kaa kba kla
  obtain ⟨kaa, kba⟩ := hxa.two
  have kla := hxa.lt
  go_wp2_with fail
  refine (toCurve_any a0 b0 _).mono ?_
  rintro e w3 ⟨rfl, hb⟩
  replace h := Below.step h hb
  replace hxa := hxa.kept hb
  clear hb kaa kba kla
  obtain ⟨kaa, kba⟩ := hxa.two
  have kla := hxa.lt
  go_wp2_with fail
  refine (hI.out _).mono ?_
  rintro e w4 ⟨rfl, hb⟩
  replace h := Below.step h hb
  replace hxa := hxa.kept hb
  clear hb kaa kba kla
  obtain ⟨kaa, kba⟩ := hxa.two
  have kla := hxa.lt
  go_wp2
  go_ret
  exact ⟨rfl, h⟩

set_option maxHeartbeats 4000000 in
set_option maxRecDepth 100000 in
theorem lawScaleCurve_core (a0 b0 : Int) (z1 : Int) (w : World)  (ra rb : Int) (ok : Bool)
    (hS : ∀ (W : World), Calls Try.prog 20 #[.agg #[.int .i64 a0, .int .i64 b0], .int .i64 z1] W (GivesFB W ra rb ok))
    (hI : ∀ (W : World), Calls Try.prog 21 #[.agg #[.int .i64 a0, .int .i64 b0], .int .i64 z1] W (GivesFB W ra rb ok)) :
    Calls Try.prog 6 #[.agg #[.int .i64 a0, .int .i64 b0], .int .i64 z1] w fun e w' => e = .returned (.bool true) ∧ Below w.heap.size w w' := by
  replace hS := Lib.hid hS
  replace hI := Lib.hid hI
  have eok : (ok != ok) = false := by simp
  have h := Below.refl w.heap.size w
  have hA := below_alloc1 w (.cells #[.int .i64 a0, .int .i64 b0] 23)
  replace h := Below.step h hA
  have hxa := Box.new w 23 #[.int .i64 a0, .int .i64 b0]
  clear hA
  go_enter Try.func6, Try.ntmps6
  obtain ⟨kaa, kba⟩ := hxa.two
  have kla := hxa.lt
  go_wp2_with fail
  refine (toCurve_any a0 b0 _).mono ?_
  rintro e w1 ⟨rfl, hb⟩
  replace h := Below.step h hb
  replace hxa := hxa.kept hb
  clear hb kaa kba kla
  obtain ⟨kaa, kba⟩ := hxa.two
  have kla := hxa.lt
  go_wp2_with fail
  refine (hS.out _).mono ?_
  rintro e w2 ⟨rfl, hb⟩
  replace h := Below.step h hb
  replace hxa := hxa.kept hb
  clear hb kaa kba kla
  obtain ⟨kaa, kba⟩ := hxa.two
  have kla := hxa.lt
  go_wp2_with fail
  have hA := below_alloc1 w2 (.cells #[.int .i64 ra, .int .i64 rb] 25)
  have hxw := Box.new w2 25 #[.int .i64 ra, .int .i64 rb]
  replace h := Below.step h hA
  replace hxa := hxa.kept hA
  clear hA kaa kba kla
  generalize w2.alloc (.cells #[.int .i64 ra, .int .i64 rb] 25) = w3 at *
  generalize w2.heap.size = gw at hxw ⊢
  obtain ⟨kaa, kba⟩ := hxa.two
  have kla := hxa.lt
  obtain ⟨kaw, kbw⟩ := hxw.two
  have klw := hxw.lt
  go_wp2_with fail
  refine (toCurve_any a0 b0 _).mono ?_
  rintro e w4 ⟨rfl, hb⟩
  replace h := Below.step h hb
  replace hxa := hxa.kept hb
  replace hxw := hxw.kept hb
  clear hb kaa kba kla kaw kbw klw
  obtain ⟨kaa, kba⟩ := hxa.two
  have kla := hxa.lt
  obtain ⟨kaw, kbw⟩ := hxw.two
  have klw := hxw.lt
  go_wp2_with fail
  refine (hI.out _).mono ?_
  rintro e w5 ⟨rfl, hb⟩
  replace h := Below.step h hb
  replace hxa := hxa.kept hb
  replace hxw := hxw.kept hb
  clear hb kaa kba kla kaw kbw klw
  obtain ⟨kaa, kba⟩ := hxa.two
  have kla := hxa.lt
  obtain ⟨kaw, kbw⟩ := hxw.two
  have klw := hxw.lt
  go_wp2_with fail
  have hA := below_alloc1 w5 (.cells #[.int .i64 ra, .int .i64 rb] 25)
  have hxg := Box.new w5 25 #[.int .i64 ra, .int .i64 rb]
  replace h := Below.step h hA
  replace hxa := hxa.kept hA
  replace hxw := hxw.kept hA
  clear hA kaa kba kla kaw kbw klw
  generalize w5.alloc (.cells #[.int .i64 ra, .int .i64 rb] 25) = w6 at *
  generalize w5.heap.size = gg at hxg ⊢
  obtain ⟨kaa, kba⟩ := hxa.two
  have kla := hxa.lt
  obtain ⟨kaw, kbw⟩ := hxw.two
  have klw := hxw.lt
  obtain ⟨kag, kbg⟩ := hxg.two
  have klg := hxg.lt
  go_wp2_with fail
  refine (eqCurve_yes ra rb _).mono ?_
  rintro e w7 ⟨rfl, hb⟩
  replace h := Below.step h hb
  replace hxa := hxa.kept hb
  replace hxw := hxw.kept hb
  replace hxg := hxg.kept hb
  clear hb kaa kba kla kaw kbw klw kag kbg klg
  obtain ⟨kaa, kba⟩ := hxa.two
  have kla := hxa.lt
  obtain ⟨kaw, kbw⟩ := hxw.two
  have klw := hxw.lt
  obtain ⟨kag, kbg⟩ := hxg.two
  have klg := hxg.lt
  go_wp2
  go_ret
  exact ⟨rfl, h⟩

set_option maxHeartbeats 4000000 in
set_option maxRecDepth 100000 in
theorem lawSmallestModel_core (a0 b0 : Int) (w : World)  (ra rb : Int) (ri : Int) (ok : Bool)
    (hS : ∀ (W : World), Calls Try.prog 23 #[.agg #[.int .i64 a0, .int .i64 b0]] W (GivesFIB W ra rb ri ok))
    (hI : ∀ (W : World), Calls Try.prog 24 #[.agg #[.int .i64 a0, .int .i64 b0]] W (GivesFIB W ra rb ri ok)) :
    Calls Try.prog 7 #[.agg #[.int .i64 a0, .int .i64 b0]] w fun e w' => e = .returned (.bool true) ∧ Below w.heap.size w w' := by
  replace hS := Lib.hid hS
  replace hI := Lib.hid hI
  have eri : (ri != ri) = false := by simp
  have eok : (ok != ok) = false := by simp
  have h := Below.refl w.heap.size w
  have hA := below_alloc1 w (.cells #[.int .i64 a0, .int .i64 b0] 23)
  replace h := Below.step h hA
  have hxa := Box.new w 23 #[.int .i64 a0, .int .i64 b0]
  clear hA
  go_enter Try.func7, Try.ntmps7
  obtain ⟨kaa, kba⟩ := hxa.two
  have kla := hxa.lt
  go_wp2_with fail
  refine (toCurve_any a0 b0 _).mono ?_
  rintro e w1 ⟨rfl, hb⟩
  replace h := Below.step h hb
  replace hxa := hxa.kept hb
  clear hb kaa kba kla
  obtain ⟨kaa, kba⟩ := hxa.two
  have kla := hxa.lt
  go_wp2_with fail
  refine (hS.out _).mono ?_
  rintro e w2 ⟨rfl, hb⟩
  replace h := Below.step h hb
  replace hxa := hxa.kept hb
  clear hb kaa kba kla
  obtain ⟨kaa, kba⟩ := hxa.two
  have kla := hxa.lt
  go_wp2_with fail
  have hA := below_alloc1 w2 (.cells #[.int .i64 ra, .int .i64 rb] 25)
  have hxw := Box.new w2 25 #[.int .i64 ra, .int .i64 rb]
  replace h := Below.step h hA
  replace hxa := hxa.kept hA
  clear hA kaa kba kla
  generalize w2.alloc (.cells #[.int .i64 ra, .int .i64 rb] 25) = w3 at *
  generalize w2.heap.size = gw at hxw ⊢
  obtain ⟨kaa, kba⟩ := hxa.two
  have kla := hxa.lt
  obtain ⟨kaw, kbw⟩ := hxw.two
  have klw := hxw.lt
  go_wp2_with fail
  refine (toCurve_any a0 b0 _).mono ?_
  rintro e w4 ⟨rfl, hb⟩
  replace h := Below.step h hb
  replace hxa := hxa.kept hb
  replace hxw := hxw.kept hb
  clear hb kaa kba kla kaw kbw klw
  obtain ⟨kaa, kba⟩ := hxa.two
  have kla := hxa.lt
  obtain ⟨kaw, kbw⟩ := hxw.two
  have klw := hxw.lt
  go_wp2_with fail
  refine (hI.out _).mono ?_
  rintro e w5 ⟨rfl, hb⟩
  replace h := Below.step h hb
  replace hxa := hxa.kept hb
  replace hxw := hxw.kept hb
  clear hb kaa kba kla kaw kbw klw
  obtain ⟨kaa, kba⟩ := hxa.two
  have kla := hxa.lt
  obtain ⟨kaw, kbw⟩ := hxw.two
  have klw := hxw.lt
  go_wp2_with fail
  have hA := below_alloc1 w5 (.cells #[.int .i64 ra, .int .i64 rb] 25)
  have hxg := Box.new w5 25 #[.int .i64 ra, .int .i64 rb]
  replace h := Below.step h hA
  replace hxa := hxa.kept hA
  replace hxw := hxw.kept hA
  clear hA kaa kba kla kaw kbw klw
  generalize w5.alloc (.cells #[.int .i64 ra, .int .i64 rb] 25) = w6 at *
  generalize w5.heap.size = gg at hxg ⊢
  obtain ⟨kaa, kba⟩ := hxa.two
  have kla := hxa.lt
  obtain ⟨kaw, kbw⟩ := hxw.two
  have klw := hxw.lt
  obtain ⟨kag, kbg⟩ := hxg.two
  have klg := hxg.lt
  go_wp2_with fail
  refine (eqCurve_yes ra rb _).mono ?_
  rintro e w7 ⟨rfl, hb⟩
  replace h := Below.step h hb
  replace hxa := hxa.kept hb
  replace hxw := hxw.kept hb
  replace hxg := hxg.kept hb
  clear hb kaa kba kla kaw kbw klw kag kbg klg
  obtain ⟨kaa, kba⟩ := hxa.two
  have kla := hxa.lt
  obtain ⟨kaw, kbw⟩ := hxw.two
  have klw := hxw.lt
  obtain ⟨kag, kbg⟩ := hxg.two
  have klg := hxg.lt
  go_wp2
  go_ret
  exact ⟨rfl, h⟩

set_option maxHeartbeats 4000000 in
set_option maxRecDepth 100000 in
theorem lawIsIntegerPoint_core (a0 b0 : Int) (z1 : Int) (z2 : Int) (w : World)  (ok : Bool) (ok1 : Bool)
    (hS : ∀ (W : World), Calls Try.prog 27 #[.agg #[.int .i64 a0, .int .i64 b0], .int .i64 z1, .int .i64 z2] W (GivesBB W ok ok1))
    (hI : ∀ (W : World), Calls Try.prog 28 #[.agg #[.int .i64 a0, .int .i64 b0], .int .i64 z1, .int .i64 z2] W (GivesBB W ok ok1)) :
    Calls Try.prog 9 #[.agg #[.int .i64 a0, .int .i64 b0], .int .i64 z1, .int .i64 z2] w fun e w' => e = .returned (.bool true) ∧ Below w.heap.size w w' := by
  replace hS := Lib.hid hS
  replace hI := Lib.hid hI
  have eok : (ok != ok) = false := by simp
  have eok1 : (ok1 != ok1) = false := by simp
  have h := Below.refl w.heap.size w
  have hA := below_alloc1 w (.cells #[.int .i64 a0, .int .i64 b0] 23)
  replace h := Below.step h hA
  have hxa := Box.new w 23 #[.int .i64 a0, .int .i64 b0]
  clear hA
  go_enter Try.func9, Try.ntmps9
  obtain ⟨kaa, kba⟩ := hxa.two
  have kla := hxa.lt
  go_wp2_with fail
  refine (toCurve_any a0 b0 _).mono ?_
  rintro e w1 ⟨rfl, hb⟩
  replace h := Below.step h hb
  replace hxa := hxa.kept hb
  clear hb kaa kba kla
  obtain ⟨kaa, kba⟩ := hxa.two
  have kla := hxa.lt
  go_wp2_with fail
  refine (hS.out _).mono ?_
  rintro e w2 ⟨rfl, hb⟩
  replace h := Below.step h hb
  replace hxa := hxa.kept hb
  clear hb kaa kba kla
  obtain ⟨kaa, kba⟩ := hxa.two
  have kla := hxa.lt
  go_wp2_with fail
  refine (toCurve_any a0 b0 _).mono ?_
  rintro e w3 ⟨rfl, hb⟩
  replace h := Below.step h hb
  replace hxa := hxa.kept hb
  clear hb kaa kba kla
  obtain ⟨kaa, kba⟩ := hxa.two
  have kla := hxa.lt
  go_wp2_with fail
  refine (hI.out _).mono ?_
  rintro e w4 ⟨rfl, hb⟩
  replace h := Below.step h hb
  replace hxa := hxa.kept hb
  clear hb kaa kba kla
  obtain ⟨kaa, kba⟩ := hxa.two
  have kla := hxa.lt
  go_wp2
  go_ret
  exact ⟨rfl, h⟩

set_option maxHeartbeats 4000000 in
set_option maxRecDepth 100000 in
theorem lawRealParts_core (a0 b0 : Int) (w : World)  (ri : Int) (ok : Bool)
    (hS : ∀ (W : World), Calls Try.prog 34 #[.agg #[.int .i64 a0, .int .i64 b0]] W (GivesIB W ri ok))
    (hI : ∀ (W : World), Calls Try.prog 35 #[.agg #[.int .i64 a0, .int .i64 b0]] W (GivesIB W ri ok)) :
    Calls Try.prog 11 #[.agg #[.int .i64 a0, .int .i64 b0]] w fun e w' => e = .returned (.bool true) ∧ Below w.heap.size w w' := by
  replace hS := Lib.hid hS
  replace hI := Lib.hid hI
  have eri : (ri != ri) = false := by simp
  have eok : (ok != ok) = false := by simp
  have h := Below.refl w.heap.size w
  have hA := below_alloc1 w (.cells #[.int .i64 a0, .int .i64 b0] 23)
  replace h := Below.step h hA
  have hxa := Box.new w 23 #[.int .i64 a0, .int .i64 b0]
  clear hA
  go_enter Try.func11, Try.ntmps11
  obtain ⟨kaa, kba⟩ := hxa.two
  have kla := hxa.lt
  go_wp2_with fail
  refine (toCurve_any a0 b0 _).mono ?_
  rintro e w1 ⟨rfl, hb⟩
  replace h := Below.step h hb
  replace hxa := hxa.kept hb
  clear hb kaa kba kla
  obtain ⟨kaa, kba⟩ := hxa.two
  have kla := hxa.lt
  go_wp2_with fail
  refine (hS.out _).mono ?_
  rintro e w2 ⟨rfl, hb⟩
  replace h := Below.step h hb
  replace hxa := hxa.kept hb
  clear hb kaa kba kla
  obtain ⟨kaa, kba⟩ := hxa.two
  have kla := hxa.lt
  go_wp2_with fail
  refine (toCurve_any a0 b0 _).mono ?_
  rintro e w3 ⟨rfl, hb⟩
  replace h := Below.step h hb
  replace hxa := hxa.kept hb
  clear hb kaa kba kla
  obtain ⟨kaa, kba⟩ := hxa.two
  have kla := hxa.lt
  go_wp2_with fail
  refine (hI.out _).mono ?_
  rintro e w4 ⟨rfl, hb⟩
  replace h := Below.step h hb
  replace hxa := hxa.kept hb
  clear hb kaa kba kla
  obtain ⟨kaa, kba⟩ := hxa.two
  have kla := hxa.lt
  go_wp2
  go_ret
  exact ⟨rfl, h⟩
end Go.Proofs.Ytmknmjkcnlennaa
