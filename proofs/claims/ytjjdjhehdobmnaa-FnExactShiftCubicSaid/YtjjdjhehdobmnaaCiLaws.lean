/- Cores of exact laws: true if the model and the program hand back the same (written by wip/gen/genlaw.py). -/
import Derived.Test.YtjjdjhehdobmnaaCuLaw0
import Derived.Test.YtjjdjhehdobmnaaCiCont
import Derived.Deep.DeepCutAuto
namespace Go.Proofs.Ytjjdjhehdobmnaa
open Go.RowKit Go.Joins

set_option maxHeartbeats 4000000 in
set_option maxRecDepth 100000 in
theorem lawIsCubic_core (a0 b0 c0 d0 : Int) (w : World)  (ok : Bool)
    (hS : ∀ (W : World), Calls Try.prog 11 #[.agg #[.int .i64 a0, .int .i64 b0, .int .i64 c0, .int .i64 d0]] W (GivesB W ok))
    (hI : ∀ (W : World), Calls Try.prog 13 #[.agg #[.int .i64 a0, .int .i64 b0, .int .i64 c0, .int .i64 d0]] W (GivesB W ok)) :
    Calls Try.prog 3 #[.agg #[.int .i64 a0, .int .i64 b0, .int .i64 c0, .int .i64 d0]] w fun e w' => e = .returned (.bool true) ∧ Below w.heap.size w w' := by
  replace hS := Lib.hid hS
  replace hI := Lib.hid hI
  have eok : (ok != ok) = false := by simp
  have h := Below.refl w.heap.size w
  have hA := below_alloc1 w (.cells #[.int .i64 a0, .int .i64 b0, .int .i64 c0, .int .i64 d0] 23)
  replace h := Below.step h hA
  have hxa := Box.new w 23 #[.int .i64 a0, .int .i64 b0, .int .i64 c0, .int .i64 d0]
  clear hA
  go_enter Try.func3, Try.ntmps3
  obtain ⟨kaa, kba, kca, kda⟩ := hxa.four
  have kla := hxa.lt
  go_wp2_with fail
  refine (toCubic_any a0 b0 c0 d0 _).mono ?_
  rintro e w1 ⟨rfl, hb⟩
  replace h := Below.step h hb
  replace hxa := hxa.kept hb
  clear hb kaa kba kca kda kla
  obtain ⟨kaa, kba, kca, kda⟩ := hxa.four
  have kla := hxa.lt
  go_wp2_with fail
  refine (hS.out _).mono ?_
  rintro e w2 ⟨rfl, hb⟩
  replace h := Below.step h hb
  replace hxa := hxa.kept hb
  clear hb kaa kba kca kda kla
  obtain ⟨kaa, kba, kca, kda⟩ := hxa.four
  have kla := hxa.lt
  go_wp2_with fail
  refine (toCubic_any a0 b0 c0 d0 _).mono ?_
  rintro e w3 ⟨rfl, hb⟩
  replace h := Below.step h hb
  replace hxa := hxa.kept hb
  clear hb kaa kba kca kda kla
  obtain ⟨kaa, kba, kca, kda⟩ := hxa.four
  have kla := hxa.lt
  go_wp2_with fail
  refine (hI.out _).mono ?_
  rintro e w4 ⟨rfl, hb⟩
  replace h := Below.step h hb
  replace hxa := hxa.kept hb
  clear hb kaa kba kca kda kla
  obtain ⟨kaa, kba, kca, kda⟩ := hxa.four
  have kla := hxa.lt
  go_wp2
  go_ret
  exact ⟨rfl, h⟩

set_option maxHeartbeats 4000000 in
set_option maxRecDepth 100000 in
theorem lawCubicAt_core (a0 b0 c0 d0 : Int) (z1 : Int) (w : World)  (ri : Int) (ok : Bool)
    (hS : ∀ (W : World), Calls Try.prog 14 #[.agg #[.int .i64 a0, .int .i64 b0, .int .i64 c0, .int .i64 d0], .int .i64 z1] W (GivesIB W ri ok))
    (hI : ∀ (W : World), Calls Try.prog 15 #[.agg #[.int .i64 a0, .int .i64 b0, .int .i64 c0, .int .i64 d0], .int .i64 z1] W (GivesIB W ri ok)) :
    Calls Try.prog 4 #[.agg #[.int .i64 a0, .int .i64 b0, .int .i64 c0, .int .i64 d0], .int .i64 z1] w fun e w' => e = .returned (.bool true) ∧ Below w.heap.size w w' := by
  replace hS := Lib.hid hS
  replace hI := Lib.hid hI
  have eri : (ri != ri) = false := by simp
  have eok : (ok != ok) = false := by simp
  have h := Below.refl w.heap.size w
  have hA := below_alloc1 w (.cells #[.int .i64 a0, .int .i64 b0, .int .i64 c0, .int .i64 d0] 23)
  replace h := Below.step h hA
  have hxa := Box.new w 23 #[.int .i64 a0, .int .i64 b0, .int .i64 c0, .int .i64 d0]
  clear hA
  go_enter Try.func4, Try.ntmps4
  obtain ⟨kaa, kba, kca, kda⟩ := hxa.four
  have kla := hxa.lt
  go_wp2_with fail
  refine (toCubic_any a0 b0 c0 d0 _).mono ?_
  rintro e w1 ⟨rfl, hb⟩
  replace h := Below.step h hb
  replace hxa := hxa.kept hb
  clear hb kaa kba kca kda kla
  obtain ⟨kaa, kba, kca, kda⟩ := hxa.four
  have kla := hxa.lt
  go_wp2_with fail
  refine (hS.out _).mono ?_
  rintro e w2 ⟨rfl, hb⟩
  replace h := Below.step h hb
  replace hxa := hxa.kept hb
  clear hb kaa kba kca kda kla
  obtain ⟨kaa, kba, kca, kda⟩ := hxa.four
  have kla := hxa.lt
  go_wp2_with fail
  refine (toCubic_any a0 b0 c0 d0 _).mono ?_
  rintro e w3 ⟨rfl, hb⟩
  replace h := Below.step h hb
  replace hxa := hxa.kept hb
  clear hb kaa kba kca kda kla
  obtain ⟨kaa, kba, kca, kda⟩ := hxa.four
  have kla := hxa.lt
  go_wp2_with fail
  refine (hI.out _).mono ?_
  rintro e w4 ⟨rfl, hb⟩
  replace h := Below.step h hb
  replace hxa := hxa.kept hb
  clear hb kaa kba kca kda kla
  obtain ⟨kaa, kba, kca, kda⟩ := hxa.four
  have kla := hxa.lt
  go_wp2
  go_ret
  exact ⟨rfl, h⟩

set_option maxHeartbeats 4000000 in
set_option maxRecDepth 100000 in
theorem lawCubicDiscriminant_core (a0 b0 c0 d0 : Int) (w : World)  (ri : Int) (ok : Bool)
    (hS : ∀ (W : World), Calls Try.prog 16 #[.agg #[.int .i64 a0, .int .i64 b0, .int .i64 c0, .int .i64 d0]] W (GivesIB W ri ok))
    (hI : ∀ (W : World), Calls Try.prog 17 #[.agg #[.int .i64 a0, .int .i64 b0, .int .i64 c0, .int .i64 d0]] W (GivesIB W ri ok)) :
    Calls Try.prog 5 #[.agg #[.int .i64 a0, .int .i64 b0, .int .i64 c0, .int .i64 d0]] w fun e w' => e = .returned (.bool true) ∧ Below w.heap.size w w' := by
  replace hS := Lib.hid hS
  replace hI := Lib.hid hI
  have eri : (ri != ri) = false := by simp
  have eok : (ok != ok) = false := by simp
  have h := Below.refl w.heap.size w
  have hA := below_alloc1 w (.cells #[.int .i64 a0, .int .i64 b0, .int .i64 c0, .int .i64 d0] 23)
  replace h := Below.step h hA
  have hxa := Box.new w 23 #[.int .i64 a0, .int .i64 b0, .int .i64 c0, .int .i64 d0]
  clear hA
  go_enter Try.func5, Try.ntmps5
  obtain ⟨kaa, kba, kca, kda⟩ := hxa.four
  have kla := hxa.lt
  go_wp2_with fail
  refine (toCubic_any a0 b0 c0 d0 _).mono ?_
  rintro e w1 ⟨rfl, hb⟩
  replace h := Below.step h hb
  replace hxa := hxa.kept hb
  clear hb kaa kba kca kda kla
  obtain ⟨kaa, kba, kca, kda⟩ := hxa.four
  have kla := hxa.lt
  go_wp2_with fail
  refine (hS.out _).mono ?_
  rintro e w2 ⟨rfl, hb⟩
  replace h := Below.step h hb
  replace hxa := hxa.kept hb
  clear hb kaa kba kca kda kla
  obtain ⟨kaa, kba, kca, kda⟩ := hxa.four
  have kla := hxa.lt
  go_wp2_with fail
  refine (toCubic_any a0 b0 c0 d0 _).mono ?_
  rintro e w3 ⟨rfl, hb⟩
  replace h := Below.step h hb
  replace hxa := hxa.kept hb
  clear hb kaa kba kca kda kla
  obtain ⟨kaa, kba, kca, kda⟩ := hxa.four
  have kla := hxa.lt
  go_wp2_with fail
  refine (hI.out _).mono ?_
  rintro e w4 ⟨rfl, hb⟩
  replace h := Below.step h hb
  replace hxa := hxa.kept hb
  clear hb kaa kba kca kda kla
  obtain ⟨kaa, kba, kca, kda⟩ := hxa.four
  have kla := hxa.lt
  go_wp2
  go_ret
  exact ⟨rfl, h⟩

set_option maxHeartbeats 4000000 in
set_option maxRecDepth 100000 in
theorem lawRealRootCount_core (a0 b0 c0 d0 : Int) (w : World)  (ri : Int) (ok : Bool)
    (hS : ∀ (W : World), Calls Try.prog 18 #[.agg #[.int .i64 a0, .int .i64 b0, .int .i64 c0, .int .i64 d0]] W (GivesIB W ri ok))
    (hI : ∀ (W : World), Calls Try.prog 19 #[.agg #[.int .i64 a0, .int .i64 b0, .int .i64 c0, .int .i64 d0]] W (GivesIB W ri ok)) :
    Calls Try.prog 6 #[.agg #[.int .i64 a0, .int .i64 b0, .int .i64 c0, .int .i64 d0]] w fun e w' => e = .returned (.bool true) ∧ Below w.heap.size w w' := by
  replace hS := Lib.hid hS
  replace hI := Lib.hid hI
  have eri : (ri != ri) = false := by simp
  have eok : (ok != ok) = false := by simp
  have h := Below.refl w.heap.size w
  have hA := below_alloc1 w (.cells #[.int .i64 a0, .int .i64 b0, .int .i64 c0, .int .i64 d0] 23)
  replace h := Below.step h hA
  have hxa := Box.new w 23 #[.int .i64 a0, .int .i64 b0, .int .i64 c0, .int .i64 d0]
  clear hA
  go_enter Try.func6, Try.ntmps6
  obtain ⟨kaa, kba, kca, kda⟩ := hxa.four
  have kla := hxa.lt
  go_wp2_with fail
  refine (toCubic_any a0 b0 c0 d0 _).mono ?_
  rintro e w1 ⟨rfl, hb⟩
  replace h := Below.step h hb
  replace hxa := hxa.kept hb
  clear hb kaa kba kca kda kla
  obtain ⟨kaa, kba, kca, kda⟩ := hxa.four
  have kla := hxa.lt
  go_wp2_with fail
  refine (hS.out _).mono ?_
  rintro e w2 ⟨rfl, hb⟩
  replace h := Below.step h hb
  replace hxa := hxa.kept hb
  clear hb kaa kba kca kda kla
  obtain ⟨kaa, kba, kca, kda⟩ := hxa.four
  have kla := hxa.lt
  go_wp2_with fail
  refine (toCubic_any a0 b0 c0 d0 _).mono ?_
  rintro e w3 ⟨rfl, hb⟩
  replace h := Below.step h hb
  replace hxa := hxa.kept hb
  clear hb kaa kba kca kda kla
  obtain ⟨kaa, kba, kca, kda⟩ := hxa.four
  have kla := hxa.lt
  go_wp2_with fail
  refine (hI.out _).mono ?_
  rintro e w4 ⟨rfl, hb⟩
  replace h := Below.step h hb
  replace hxa := hxa.kept hb
  clear hb kaa kba kca kda kla
  obtain ⟨kaa, kba, kca, kda⟩ := hxa.four
  have kla := hxa.lt
  go_wp2
  go_ret
  exact ⟨rfl, h⟩

set_option maxHeartbeats 4000000 in
set_option maxRecDepth 100000 in
theorem lawContentOf_core (a0 b0 c0 d0 : Int) (w : World)  (ri : Int) (ra rb rc rd : Int) (ok : Bool)
    (hS : ∀ (W : World), Calls Try.prog 25 #[.agg #[.int .i64 a0, .int .i64 b0, .int .i64 c0, .int .i64 d0]] W (GivesICB W ri ra rb rc rd ok))
    (hI : ∀ (W : World), Calls Try.prog 26 #[.agg #[.int .i64 a0, .int .i64 b0, .int .i64 c0, .int .i64 d0]] W (GivesICB W ri ra rb rc rd ok)) :
    Calls Try.prog 8 #[.agg #[.int .i64 a0, .int .i64 b0, .int .i64 c0, .int .i64 d0]] w fun e w' => e = .returned (.bool true) ∧ Below w.heap.size w w' := by
  replace hS := Lib.hid hS
  replace hI := Lib.hid hI
  have eri : (ri != ri) = false := by simp
  have eok : (ok != ok) = false := by simp
  have h := Below.refl w.heap.size w
  have hA := below_alloc1 w (.cells #[.int .i64 a0, .int .i64 b0, .int .i64 c0, .int .i64 d0] 23)
  replace h := Below.step h hA
  have hxa := Box.new w 23 #[.int .i64 a0, .int .i64 b0, .int .i64 c0, .int .i64 d0]
  clear hA
  go_enter Try.func8, Try.ntmps8
  obtain ⟨kaa, kba, kca, kda⟩ := hxa.four
  have kla := hxa.lt
  go_wp2_with fail
  refine (toCubic_any a0 b0 c0 d0 _).mono ?_
  rintro e w1 ⟨rfl, hb⟩
  replace h := Below.step h hb
  replace hxa := hxa.kept hb
  clear hb kaa kba kca kda kla
  obtain ⟨kaa, kba, kca, kda⟩ := hxa.four
  have kla := hxa.lt
  go_wp2_with fail
  refine (hS.out _).mono ?_
  rintro e w2 ⟨rfl, hb⟩
  replace h := Below.step h hb
  replace hxa := hxa.kept hb
  clear hb kaa kba kca kda kla
  obtain ⟨kaa, kba, kca, kda⟩ := hxa.four
  have kla := hxa.lt
  go_wp2_with fail
  have hA := below_alloc1 w2 (.cells #[.int .i64 ra, .int .i64 rb, .int .i64 rc, .int .i64 rd] 25)
  have hxw := Box.new w2 25 #[.int .i64 ra, .int .i64 rb, .int .i64 rc, .int .i64 rd]
  replace h := Below.step h hA
  replace hxa := hxa.kept hA
  clear hA kaa kba kca kda kla
  generalize w2.alloc (.cells #[.int .i64 ra, .int .i64 rb, .int .i64 rc, .int .i64 rd] 25) = w3 at *
  generalize w2.heap.size = gw at hxw ⊢
  obtain ⟨kaa, kba, kca, kda⟩ := hxa.four
  have kla := hxa.lt
  obtain ⟨kaw, kbw, kcw, kdw⟩ := hxw.four
  have klw := hxw.lt
  go_wp2_with fail
  refine (toCubic_any a0 b0 c0 d0 _).mono ?_
  rintro e w4 ⟨rfl, hb⟩
  replace h := Below.step h hb
  replace hxa := hxa.kept hb
  replace hxw := hxw.kept hb
  clear hb kaa kba kca kda kla kaw kbw kcw kdw klw
  obtain ⟨kaa, kba, kca, kda⟩ := hxa.four
  have kla := hxa.lt
  obtain ⟨kaw, kbw, kcw, kdw⟩ := hxw.four
  have klw := hxw.lt
  go_wp2_with fail
  refine (hI.out _).mono ?_
  rintro e w5 ⟨rfl, hb⟩
  replace h := Below.step h hb
  replace hxa := hxa.kept hb
  replace hxw := hxw.kept hb
  clear hb kaa kba kca kda kla kaw kbw kcw kdw klw
  obtain ⟨kaa, kba, kca, kda⟩ := hxa.four
  have kla := hxa.lt
  obtain ⟨kaw, kbw, kcw, kdw⟩ := hxw.four
  have klw := hxw.lt
  go_wp2_with fail
  have hA := below_alloc1 w5 (.cells #[.int .i64 ra, .int .i64 rb, .int .i64 rc, .int .i64 rd] 25)
  have hxg := Box.new w5 25 #[.int .i64 ra, .int .i64 rb, .int .i64 rc, .int .i64 rd]
  replace h := Below.step h hA
  replace hxa := hxa.kept hA
  replace hxw := hxw.kept hA
  clear hA kaa kba kca kda kla kaw kbw kcw kdw klw
  generalize w5.alloc (.cells #[.int .i64 ra, .int .i64 rb, .int .i64 rc, .int .i64 rd] 25) = w6 at *
  generalize w5.heap.size = gg at hxg ⊢
  obtain ⟨kaa, kba, kca, kda⟩ := hxa.four
  have kla := hxa.lt
  obtain ⟨kaw, kbw, kcw, kdw⟩ := hxw.four
  have klw := hxw.lt
  obtain ⟨kag, kbg, kcg, kdg⟩ := hxg.four
  have klg := hxg.lt
  go_wp2_with fail
  refine (eqCubic_yes ra rb rc rd _).mono ?_
  rintro e w7 ⟨rfl, hb⟩
  replace h := Below.step h hb
  replace hxa := hxa.kept hb
  replace hxw := hxw.kept hb
  replace hxg := hxg.kept hb
  clear hb kaa kba kca kda kla kaw kbw kcw kdw klw kag kbg kcg kdg klg
  obtain ⟨kaa, kba, kca, kda⟩ := hxa.four
  have kla := hxa.lt
  obtain ⟨kaw, kbw, kcw, kdw⟩ := hxw.four
  have klw := hxw.lt
  obtain ⟨kag, kbg, kcg, kdg⟩ := hxg.four
  have klg := hxg.lt
  go_wp2
  go_ret
  exact ⟨rfl, h⟩

set_option maxHeartbeats 4000000 in
set_option maxRecDepth 100000 in
theorem lawShiftCubic_core (a0 b0 c0 d0 : Int) (z1 : Int) (w : World)  (ra rb rc rd : Int) (ok : Bool)
    (hS : ∀ (W : World), Calls Try.prog 28 #[.agg #[.int .i64 a0, .int .i64 b0, .int .i64 c0, .int .i64 d0], .int .i64 z1] W (GivesCB W ra rb rc rd ok))
    (hI : ∀ (W : World), Calls Try.prog 29 #[.agg #[.int .i64 a0, .int .i64 b0, .int .i64 c0, .int .i64 d0], .int .i64 z1] W (GivesCB W ra rb rc rd ok)) :
    Calls Try.prog 9 #[.agg #[.int .i64 a0, .int .i64 b0, .int .i64 c0, .int .i64 d0], .int .i64 z1] w fun e w' => e = .returned (.bool true) ∧ Below w.heap.size w w' := by
  replace hS := Lib.hid hS
  replace hI := Lib.hid hI
  have eok : (ok != ok) = false := by simp
  have h := Below.refl w.heap.size w
  have hA := below_alloc1 w (.cells #[.int .i64 a0, .int .i64 b0, .int .i64 c0, .int .i64 d0] 23)
  replace h := Below.step h hA
  have hxa := Box.new w 23 #[.int .i64 a0, .int .i64 b0, .int .i64 c0, .int .i64 d0]
  clear hA
  go_enter Try.func9, Try.ntmps9
  obtain ⟨kaa, kba, kca, kda⟩ := hxa.four
  have kla := hxa.lt
  go_wp2_with fail
  refine (toCubic_any a0 b0 c0 d0 _).mono ?_
  rintro e w1 ⟨rfl, hb⟩
  replace h := Below.step h hb
  replace hxa := hxa.kept hb
  clear hb kaa kba kca kda kla
  obtain ⟨kaa, kba, kca, kda⟩ := hxa.four
  have kla := hxa.lt
  go_wp2_with fail
  refine (hS.out _).mono ?_
  rintro e w2 ⟨rfl, hb⟩
  replace h := Below.step h hb
  replace hxa := hxa.kept hb
  clear hb kaa kba kca kda kla
  obtain ⟨kaa, kba, kca, kda⟩ := hxa.four
  have kla := hxa.lt
  go_wp2_with fail
  have hA := below_alloc1 w2 (.cells #[.int .i64 ra, .int .i64 rb, .int .i64 rc, .int .i64 rd] 25)
  have hxw := Box.new w2 25 #[.int .i64 ra, .int .i64 rb, .int .i64 rc, .int .i64 rd]
  replace h := Below.step h hA
  replace hxa := hxa.kept hA
  clear hA kaa kba kca kda kla
  generalize w2.alloc (.cells #[.int .i64 ra, .int .i64 rb, .int .i64 rc, .int .i64 rd] 25) = w3 at *
  generalize w2.heap.size = gw at hxw ⊢
  obtain ⟨kaa, kba, kca, kda⟩ := hxa.four
  have kla := hxa.lt
  obtain ⟨kaw, kbw, kcw, kdw⟩ := hxw.four
  have klw := hxw.lt
  go_wp2_with fail
  refine (toCubic_any a0 b0 c0 d0 _).mono ?_
  rintro e w4 ⟨rfl, hb⟩
  replace h := Below.step h hb
  replace hxa := hxa.kept hb
  replace hxw := hxw.kept hb
  clear hb kaa kba kca kda kla kaw kbw kcw kdw klw
  obtain ⟨kaa, kba, kca, kda⟩ := hxa.four
  have kla := hxa.lt
  obtain ⟨kaw, kbw, kcw, kdw⟩ := hxw.four
  have klw := hxw.lt
  go_wp2_with fail
  refine (hI.out _).mono ?_
  rintro e w5 ⟨rfl, hb⟩
  replace h := Below.step h hb
  replace hxa := hxa.kept hb
  replace hxw := hxw.kept hb
  clear hb kaa kba kca kda kla kaw kbw kcw kdw klw
  obtain ⟨kaa, kba, kca, kda⟩ := hxa.four
  have kla := hxa.lt
  obtain ⟨kaw, kbw, kcw, kdw⟩ := hxw.four
  have klw := hxw.lt
  go_wp2_with fail
  have hA := below_alloc1 w5 (.cells #[.int .i64 ra, .int .i64 rb, .int .i64 rc, .int .i64 rd] 25)
  have hxg := Box.new w5 25 #[.int .i64 ra, .int .i64 rb, .int .i64 rc, .int .i64 rd]
  replace h := Below.step h hA
  replace hxa := hxa.kept hA
  replace hxw := hxw.kept hA
  clear hA kaa kba kca kda kla kaw kbw kcw kdw klw
  generalize w5.alloc (.cells #[.int .i64 ra, .int .i64 rb, .int .i64 rc, .int .i64 rd] 25) = w6 at *
  generalize w5.heap.size = gg at hxg ⊢
  obtain ⟨kaa, kba, kca, kda⟩ := hxa.four
  have kla := hxa.lt
  obtain ⟨kaw, kbw, kcw, kdw⟩ := hxw.four
  have klw := hxw.lt
  obtain ⟨kag, kbg, kcg, kdg⟩ := hxg.four
  have klg := hxg.lt
  go_wp2_with fail
  refine (eqCubic_yes ra rb rc rd _).mono ?_
  rintro e w7 ⟨rfl, hb⟩
  replace h := Below.step h hb
  replace hxa := hxa.kept hb
  replace hxw := hxw.kept hb
  replace hxg := hxg.kept hb
  clear hb kaa kba kca kda kla kaw kbw kcw kdw klw kag kbg kcg kdg klg
  obtain ⟨kaa, kba, kca, kda⟩ := hxa.four
  have kla := hxa.lt
  obtain ⟨kaw, kbw, kcw, kdw⟩ := hxw.four
  have klw := hxw.lt
  obtain ⟨kag, kbg, kcg, kdg⟩ := hxg.four
  have klg := hxg.lt
  go_wp2
  go_ret
  exact ⟨rfl, h⟩

set_option maxHeartbeats 4000000 in
set_option maxRecDepth 100000 in
theorem lawReverseCubic_core (a0 b0 c0 d0 : Int) (w : World)  (ra rb rc rd : Int) (ok : Bool)
    (hS : ∀ (W : World), Calls Try.prog 30 #[.agg #[.int .i64 a0, .int .i64 b0, .int .i64 c0, .int .i64 d0]] W (GivesCB W ra rb rc rd ok))
    (hI : ∀ (W : World), Calls Try.prog 31 #[.agg #[.int .i64 a0, .int .i64 b0, .int .i64 c0, .int .i64 d0]] W (GivesCB W ra rb rc rd ok)) :
    Calls Try.prog 10 #[.agg #[.int .i64 a0, .int .i64 b0, .int .i64 c0, .int .i64 d0]] w fun e w' => e = .returned (.bool true) ∧ Below w.heap.size w w' := by
  replace hS := Lib.hid hS
  replace hI := Lib.hid hI
  have eok : (ok != ok) = false := by simp
  have h := Below.refl w.heap.size w
  have hA := below_alloc1 w (.cells #[.int .i64 a0, .int .i64 b0, .int .i64 c0, .int .i64 d0] 23)
  replace h := Below.step h hA
  have hxa := Box.new w 23 #[.int .i64 a0, .int .i64 b0, .int .i64 c0, .int .i64 d0]
  clear hA
  go_enter Try.func10, Try.ntmps10
  obtain ⟨kaa, kba, kca, kda⟩ := hxa.four
  have kla := hxa.lt
  go_wp2_with fail
  refine (toCubic_any a0 b0 c0 d0 _).mono ?_
  rintro e w1 ⟨rfl, hb⟩
  replace h := Below.step h hb
  replace hxa := hxa.kept hb
  clear hb kaa kba kca kda kla
  obtain ⟨kaa, kba, kca, kda⟩ := hxa.four
  have kla := hxa.lt
  go_wp2_with fail
  refine (hS.out _).mono ?_
  rintro e w2 ⟨rfl, hb⟩
  replace h := Below.step h hb
  replace hxa := hxa.kept hb
  clear hb kaa kba kca kda kla
  obtain ⟨kaa, kba, kca, kda⟩ := hxa.four
  have kla := hxa.lt
  go_wp2_with fail
  have hA := below_alloc1 w2 (.cells #[.int .i64 ra, .int .i64 rb, .int .i64 rc, .int .i64 rd] 25)
  have hxw := Box.new w2 25 #[.int .i64 ra, .int .i64 rb, .int .i64 rc, .int .i64 rd]
  replace h := Below.step h hA
  replace hxa := hxa.kept hA
  clear hA kaa kba kca kda kla
  generalize w2.alloc (.cells #[.int .i64 ra, .int .i64 rb, .int .i64 rc, .int .i64 rd] 25) = w3 at *
  generalize w2.heap.size = gw at hxw ⊢
  obtain ⟨kaa, kba, kca, kda⟩ := hxa.four
  have kla := hxa.lt
  obtain ⟨kaw, kbw, kcw, kdw⟩ := hxw.four
  have klw := hxw.lt
  go_wp2_with fail
  refine (toCubic_any a0 b0 c0 d0 _).mono ?_
  rintro e w4 ⟨rfl, hb⟩
  replace h := Below.step h hb
  replace hxa := hxa.kept hb
  replace hxw := hxw.kept hb
  clear hb kaa kba kca kda kla kaw kbw kcw kdw klw
  obtain ⟨kaa, kba, kca, kda⟩ := hxa.four
  have kla := hxa.lt
  obtain ⟨kaw, kbw, kcw, kdw⟩ := hxw.four
  have klw := hxw.lt
  go_wp2_with fail
  refine (hI.out _).mono ?_
  rintro e w5 ⟨rfl, hb⟩
  replace h := Below.step h hb
  replace hxa := hxa.kept hb
  replace hxw := hxw.kept hb
  clear hb kaa kba kca kda kla kaw kbw kcw kdw klw
  obtain ⟨kaa, kba, kca, kda⟩ := hxa.four
  have kla := hxa.lt
  obtain ⟨kaw, kbw, kcw, kdw⟩ := hxw.four
  have klw := hxw.lt
  go_wp2_with fail
  have hA := below_alloc1 w5 (.cells #[.int .i64 ra, .int .i64 rb, .int .i64 rc, .int .i64 rd] 25)
  have hxg := Box.new w5 25 #[.int .i64 ra, .int .i64 rb, .int .i64 rc, .int .i64 rd]
  replace h := Below.step h hA
  replace hxa := hxa.kept hA
  replace hxw := hxw.kept hA
  clear hA kaa kba kca kda kla kaw kbw kcw kdw klw
  generalize w5.alloc (.cells #[.int .i64 ra, .int .i64 rb, .int .i64 rc, .int .i64 rd] 25) = w6 at *
  generalize w5.heap.size = gg at hxg ⊢
  obtain ⟨kaa, kba, kca, kda⟩ := hxa.four
  have kla := hxa.lt
  obtain ⟨kaw, kbw, kcw, kdw⟩ := hxw.four
  have klw := hxw.lt
  obtain ⟨kag, kbg, kcg, kdg⟩ := hxg.four
  have klg := hxg.lt
  go_wp2_with fail
  refine (eqCubic_yes ra rb rc rd _).mono ?_
  rintro e w7 ⟨rfl, hb⟩
  replace h := Below.step h hb
  replace hxa := hxa.kept hb
  replace hxw := hxw.kept hb
  replace hxg := hxg.kept hb
  clear hb kaa kba kca kda kla kaw kbw kcw kdw klw kag kbg kcg kdg klg
  obtain ⟨kaa, kba, kca, kda⟩ := hxa.four
  have kla := hxa.lt
  obtain ⟨kaw, kbw, kcw, kdw⟩ := hxw.four
  have klw := hxw.lt
  obtain ⟨kag, kbg, kcg, kdg⟩ := hxg.four
  have klg := hxg.lt
  go_wp2
  go_ret
  exact ⟨rfl, h⟩
end Go.Proofs.Ytjjdjhehdobmnaa
