/- Sums, differences, products and quotients: the model's and the program's (written by wip/gen/frtwo.py). -/
import Derived.Test.YtchglkcfolannaaDoorFrMake
import Derived.Deep.DeepCutAuto
namespace Go.Proofs.YtchglkcfolannaaDoor
open Go.RowKit Go.Joins

set_option maxHeartbeats 1000000 in
theorem frTwo_yes (p0 q0 p1 q1 : Int) (w : World) (g0 : FrG p0 q0) (g1 : FrG p1 q1) : Calls Tryd.prog 24 #[.agg #[.int .i64 p0, .int .i64 q0], .agg #[.int .i64 p1, .int .i64 q1]] w (GivesB w true) := by
  have h := Below.refl w.heap.size w
  have hA := below_alloc1 w (.cells #[.int .i64 p0, .int .i64 q0] 24)
  replace h := Below.step h hA
  have hx0 := Box.new w 24 #[.int .i64 p0, .int .i64 q0]
  clear hA
  have hA := below_alloc1 (w.alloc (.cells #[.int .i64 p0, .int .i64 q0] 24)) (.cells #[.int .i64 p1, .int .i64 q1] 24)
  replace h := Below.step h hA
  replace hx0 := hx0.kept hA
  have hx1 := Box.new (w.alloc (.cells #[.int .i64 p0, .int .i64 q0] 24)) 24 #[.int .i64 p1, .int .i64 q1]
  rw [show (w.alloc (.cells #[.int .i64 p0, .int .i64 q0] 24)).heap.size = w.heap.size + 1 from by simp] at hx1
  clear hA
  go_enter Tryd.func24, Tryd.ntmps24
  go_wp2_with fail
  refine (frGood_yes p0 q0 _ g0).mono ?_
  rintro e w1 ⟨rfl, hb⟩
  replace h := Below.step h hb
  replace hx0 := hx0.kept hb
  replace hx1 := hx1.kept hb
  clear hb
  obtain ⟨ahx0, bhx0⟩ := hx0.two
  have lhx0 := hx0.lt
  obtain ⟨ahx1, bhx1⟩ := hx1.two
  have lhx1 := hx1.lt
  go_wp2_with fail
  refine (frGood_yes p1 q1 _ g1).mono ?_
  rintro e w2 ⟨rfl, hb⟩
  replace h := Below.step h hb
  replace hx0 := hx0.kept hb
  replace hx1 := hx1.kept hb
  clear hb ahx0 bhx0 lhx0 ahx1 bhx1 lhx1
  obtain ⟨ahx0, bhx0⟩ := hx0.two
  have lhx0 := hx0.lt
  obtain ⟨ahx1, bhx1⟩ := hx1.two
  have lhx1 := hx1.lt
  go_wp2_with fail
  go_ret
  exact ⟨rfl, h⟩

set_option maxHeartbeats 1000000 in
theorem frTwo_no0 (p0 q0 p1 q1 : Int) (w : World) (g0 : ¬ FrG p0 q0) : Calls Tryd.prog 24 #[.agg #[.int .i64 p0, .int .i64 q0], .agg #[.int .i64 p1, .int .i64 q1]] w (GivesB w false) := by
  have h := Below.refl w.heap.size w
  have hA := below_alloc1 w (.cells #[.int .i64 p0, .int .i64 q0] 24)
  replace h := Below.step h hA
  have hx0 := Box.new w 24 #[.int .i64 p0, .int .i64 q0]
  clear hA
  have hA := below_alloc1 (w.alloc (.cells #[.int .i64 p0, .int .i64 q0] 24)) (.cells #[.int .i64 p1, .int .i64 q1] 24)
  replace h := Below.step h hA
  replace hx0 := hx0.kept hA
  have hx1 := Box.new (w.alloc (.cells #[.int .i64 p0, .int .i64 q0] 24)) 24 #[.int .i64 p1, .int .i64 q1]
  rw [show (w.alloc (.cells #[.int .i64 p0, .int .i64 q0] 24)).heap.size = w.heap.size + 1 from by simp] at hx1
  clear hA
  go_enter Tryd.func24, Tryd.ntmps24
  go_wp2_with fail
  refine (frGood_no p0 q0 _ g0).mono ?_
  rintro e w1 ⟨rfl, hb⟩
  replace h := Below.step h hb
  replace hx0 := hx0.kept hb
  replace hx1 := hx1.kept hb
  clear hb
  obtain ⟨ahx0, bhx0⟩ := hx0.two
  have lhx0 := hx0.lt
  obtain ⟨ahx1, bhx1⟩ := hx1.two
  have lhx1 := hx1.lt
  go_wp2_with fail
  go_ret
  exact ⟨rfl, h⟩

set_option maxHeartbeats 1000000 in
theorem frTwo_no1 (p0 q0 p1 q1 : Int) (w : World) (g0 : FrG p0 q0) (g1 : ¬ FrG p1 q1) : Calls Tryd.prog 24 #[.agg #[.int .i64 p0, .int .i64 q0], .agg #[.int .i64 p1, .int .i64 q1]] w (GivesB w false) := by
  have h := Below.refl w.heap.size w
  have hA := below_alloc1 w (.cells #[.int .i64 p0, .int .i64 q0] 24)
  replace h := Below.step h hA
  have hx0 := Box.new w 24 #[.int .i64 p0, .int .i64 q0]
  clear hA
  have hA := below_alloc1 (w.alloc (.cells #[.int .i64 p0, .int .i64 q0] 24)) (.cells #[.int .i64 p1, .int .i64 q1] 24)
  replace h := Below.step h hA
  replace hx0 := hx0.kept hA
  have hx1 := Box.new (w.alloc (.cells #[.int .i64 p0, .int .i64 q0] 24)) 24 #[.int .i64 p1, .int .i64 q1]
  rw [show (w.alloc (.cells #[.int .i64 p0, .int .i64 q0] 24)).heap.size = w.heap.size + 1 from by simp] at hx1
  clear hA
  go_enter Tryd.func24, Tryd.ntmps24
  go_wp2_with fail
  refine (frGood_yes p0 q0 _ g0).mono ?_
  rintro e w1 ⟨rfl, hb⟩
  replace h := Below.step h hb
  replace hx0 := hx0.kept hb
  replace hx1 := hx1.kept hb
  clear hb
  obtain ⟨ahx0, bhx0⟩ := hx0.two
  have lhx0 := hx0.lt
  obtain ⟨ahx1, bhx1⟩ := hx1.two
  have lhx1 := hx1.lt
  go_wp2_with fail
  refine (frGood_no p1 q1 _ g1).mono ?_
  rintro e w2 ⟨rfl, hb⟩
  replace h := Below.step h hb
  replace hx0 := hx0.kept hb
  replace hx1 := hx1.kept hb
  clear hb ahx0 bhx0 lhx0 ahx1 bhx1 lhx1
  obtain ⟨ahx0, bhx0⟩ := hx0.two
  have lhx0 := hx0.lt
  obtain ⟨ahx1, bhx1⟩ := hx1.two
  have lhx1 := hx1.lt
  go_wp2_with fail
  go_ret
  exact ⟨rfl, h⟩

theorem frTwo_no (p0 q0 p1 q1 : Int) (w : World) (g : ¬ (FrG p0 q0 ∧ FrG p1 q1)) : Calls Tryd.prog 24 #[.agg #[.int .i64 p0, .int .i64 q0], .agg #[.int .i64 p1, .int .i64 q1]] w (GivesB w false) := by
  by_cases g0 : FrG p0 q0
  · exact frTwo_no1 p0 q0 p1 q1 w g0 (fun g1 => g ⟨g0, g1⟩)
  · exact frTwo_no0 p0 q0 p1 q1 w g0

set_option maxHeartbeats 1000000 in
theorem frAdd_any (p0 q0 p1 q1 : Int) (w : World) (g0 : FrG p0 q0) (g1 : FrG p1 q1) :
    Calls Tryd.prog 25 #[.agg #[.int .i64 p0, .int .i64 q0], .agg #[.int .i64 p1, .int .i64 q1]] w (GivesFB w (lowRP (p0 * q1 + p1 * q0) (q0 * q1)) (lowRQ (p0 * q1 + p1 * q0) (q0 * q1)) (lowB (p0 * q1 + p1 * q0) (q0 * q1))) := by
  obtain ⟨a1, a2, a3, a4, -⟩ := g0
  obtain ⟨b1, b2, b3, b4, -⟩ := g1
  have m1 := fr_mul_1e18 (a := p0) (b := q1) (by omega) (by omega) (by omega) (by omega)
  have m2 := fr_mul_1e18 (a := p1) (b := q0) (by omega) (by omega) (by omega) (by omega)
  have m3 := fr_mul_1e18 (a := q0) (b := q1) (by omega) (by omega) (by omega) (by omega)
  have m4 := fr_mul_1e18 (a := p0) (b := p1) (by omega) (by omega) (by omega) (by omega)
  have m5 := fr_mul_1e18 (a := q0) (b := p1) (by omega) (by omega) (by omega) (by omega)
  obtain ⟨m1a, m1b⟩ := m1
  obtain ⟨m2a, m2b⟩ := m2
  obtain ⟨m3a, m3b⟩ := m3
  obtain ⟨m4a, m4b⟩ := m4
  obtain ⟨m5a, m5b⟩ := m5
  obtain ⟨P, hP⟩ : ∃ P, P = lowRP (p0 * q1 + p1 * q0) (q0 * q1) := ⟨_, rfl⟩
  obtain ⟨Q, hQ⟩ : ∃ Q, Q = lowRQ (p0 * q1 + p1 * q0) (q0 * q1) := ⟨_, rfl⟩
  obtain ⟨B, hB⟩ : ∃ B, B = lowB (p0 * q1 + p1 * q0) (q0 * q1) := ⟨_, rfl⟩
  have c1 := fun (W : World) => frMake_any (p0 * q1 + p1 * q0) (q0 * q1) W (by omega) (by omega) (by omega) (by omega)
  rw [← hP, ← hQ, ← hB] at c1
  rw [← hP, ← hQ, ← hB]
  replace c1 := Lib.hid c1
  clear hP hQ hB
  have h := Below.refl w.heap.size w
  have hA := below_alloc1 w (.cells #[.int .i64 p0, .int .i64 q0] 24)
  replace h := Below.step h hA
  have hx0 := Box.new w 24 #[.int .i64 p0, .int .i64 q0]
  clear hA
  have hA := below_alloc1 (w.alloc (.cells #[.int .i64 p0, .int .i64 q0] 24)) (.cells #[.int .i64 p1, .int .i64 q1] 24)
  replace h := Below.step h hA
  replace hx0 := hx0.kept hA
  have hx1 := Box.new (w.alloc (.cells #[.int .i64 p0, .int .i64 q0] 24)) 24 #[.int .i64 p1, .int .i64 q1]
  rw [show (w.alloc (.cells #[.int .i64 p0, .int .i64 q0] 24)).heap.size = w.heap.size + 1 from by simp] at hx1
  clear hA
  have hA := below_alloc1 ((w.alloc (.cells #[.int .i64 p0, .int .i64 q0] 24)).alloc (.cells #[.int .i64 p1, .int .i64 q1] 24)) (.cells #[.int .i64 0, .int .i64 0] 24)
  replace h := Below.step h hA
  replace hx0 := hx0.kept hA
  replace hx1 := hx1.kept hA
  have hxr := Box.new ((w.alloc (.cells #[.int .i64 p0, .int .i64 q0] 24)).alloc (.cells #[.int .i64 p1, .int .i64 q1] 24)) 24 #[.int .i64 0, .int .i64 0]
  rw [show ((w.alloc (.cells #[.int .i64 p0, .int .i64 q0] 24)).alloc (.cells #[.int .i64 p1, .int .i64 q1] 24)).heap.size = w.heap.size + 1 + 1 from by simp] at hxr
  clear hA
  go_enter Tryd.func25, Tryd.ntmps25
  go_wp2_with fail
  refine (c1.out _).mono ?_
  rintro e w1 ⟨rfl, hb⟩
  replace h := Below.step h hb
  replace hx0 := hx0.kept hb
  replace hx1 := hx1.kept hb
  replace hxr := hxr.kept hb
  clear hb
  obtain ⟨ahx0, bhx0⟩ := hx0.two
  have lhx0 := hx0.lt
  obtain ⟨ahx1, bhx1⟩ := hx1.two
  have lhx1 := hx1.lt
  obtain ⟨ahxr, bhxr⟩ := hxr.two
  have lhxr := hxr.lt
  have f0 := hxr.free 0
  have f1 := hxr.free 1
  go_wp2_with fail
  refine bodyPost_ret (v := .tuple #[.agg #[.int .i64 (P), .int .i64 (Q)], .bool B]) (by simp [results, Tryd.results25, go_sem, ahxr, bhxr]) rfl ⟨rfl, ?_⟩
  exact (h.setCell (by first | (simp; done) | (simp; omega)) _).setCell (by first | (simp; done) | (simp; omega)) _

set_option maxHeartbeats 1000000 in
theorem sumS_yes (p0 q0 p1 q1 : Int) (w : World) (g0 : FrG p0 q0) (g1 : FrG p1 q1) :
    Calls Tryd.prog 6 #[.agg #[.int .i64 p0, .int .i64 q0], .agg #[.int .i64 p1, .int .i64 q1]] w (GivesFB w (lowRP (p0 * q1 + p1 * q0) (q0 * q1)) (lowRQ (p0 * q1 + p1 * q0) (q0 * q1)) (lowB (p0 * q1 + p1 * q0) (q0 * q1))) := by
  obtain ⟨P, hP⟩ : ∃ P, P = lowRP (p0 * q1 + p1 * q0) (q0 * q1) := ⟨_, rfl⟩
  obtain ⟨Q, hQ⟩ : ∃ Q, Q = lowRQ (p0 * q1 + p1 * q0) (q0 * q1) := ⟨_, rfl⟩
  obtain ⟨B, hB⟩ : ∃ B, B = lowB (p0 * q1 + p1 * q0) (q0 * q1) := ⟨_, rfl⟩
  have c1 := fun (W : World) => frAdd_any p0 q0 p1 q1 W g0 g1
  rw [← hP, ← hQ, ← hB] at c1
  rw [← hP, ← hQ, ← hB]
  replace c1 := Lib.hid c1
  clear hP hQ hB
  have h := Below.refl w.heap.size w
  have hA := below_alloc1 w (.cells #[.int .i64 p0, .int .i64 q0] 24)
  replace h := Below.step h hA
  have hx0 := Box.new w 24 #[.int .i64 p0, .int .i64 q0]
  clear hA
  have hA := below_alloc1 (w.alloc (.cells #[.int .i64 p0, .int .i64 q0] 24)) (.cells #[.int .i64 p1, .int .i64 q1] 24)
  replace h := Below.step h hA
  replace hx0 := hx0.kept hA
  have hx1 := Box.new (w.alloc (.cells #[.int .i64 p0, .int .i64 q0] 24)) 24 #[.int .i64 p1, .int .i64 q1]
  rw [show (w.alloc (.cells #[.int .i64 p0, .int .i64 q0] 24)).heap.size = w.heap.size + 1 from by simp] at hx1
  clear hA
  have hA := below_alloc1 ((w.alloc (.cells #[.int .i64 p0, .int .i64 q0] 24)).alloc (.cells #[.int .i64 p1, .int .i64 q1] 24)) (.cells #[.int .i64 0, .int .i64 0] 24)
  replace h := Below.step h hA
  replace hx0 := hx0.kept hA
  replace hx1 := hx1.kept hA
  have hxr := Box.new ((w.alloc (.cells #[.int .i64 p0, .int .i64 q0] 24)).alloc (.cells #[.int .i64 p1, .int .i64 q1] 24)) 24 #[.int .i64 0, .int .i64 0]
  rw [show ((w.alloc (.cells #[.int .i64 p0, .int .i64 q0] 24)).alloc (.cells #[.int .i64 p1, .int .i64 q1] 24)).heap.size = w.heap.size + 1 + 1 from by simp] at hxr
  clear hA
  go_enter Tryd.func6, Tryd.ntmps6
  go_wp2_with fail
  refine (frTwo_yes p0 q0 p1 q1 _ g0 g1).mono ?_
  rintro e w1 ⟨rfl, hb⟩
  replace h := Below.step h hb
  replace hx0 := hx0.kept hb
  replace hx1 := hx1.kept hb
  replace hxr := hxr.kept hb
  clear hb
  obtain ⟨ahx0, bhx0⟩ := hx0.two
  have lhx0 := hx0.lt
  obtain ⟨ahx1, bhx1⟩ := hx1.two
  have lhx1 := hx1.lt
  obtain ⟨ahxr, bhxr⟩ := hxr.two
  have lhxr := hxr.lt
  go_wp2_with fail
  refine (c1.out _).mono ?_
  rintro e w2 ⟨rfl, hb⟩
  replace h := Below.step h hb
  replace hx0 := hx0.kept hb
  replace hx1 := hx1.kept hb
  replace hxr := hxr.kept hb
  clear hb ahx0 bhx0 lhx0 ahx1 bhx1 lhx1 ahxr bhxr lhxr
  obtain ⟨ahx0, bhx0⟩ := hx0.two
  have lhx0 := hx0.lt
  obtain ⟨ahx1, bhx1⟩ := hx1.two
  have lhx1 := hx1.lt
  obtain ⟨ahxr, bhxr⟩ := hxr.two
  have lhxr := hxr.lt
  have f0 := hxr.free 0
  have f1 := hxr.free 1
  go_wp2_with fail
  refine bodyPost_ret (v := .tuple #[.agg #[.int .i64 (P), .int .i64 (Q)], .bool B]) (by simp [results, Tryd.results6, go_sem, ahxr, bhxr]) rfl ⟨rfl, ?_⟩
  exact (h.setCell (by first | (simp; done) | (simp; omega)) _).setCell (by first | (simp; done) | (simp; omega)) _

set_option maxHeartbeats 1000000 in
theorem sumS_no (p0 q0 p1 q1 : Int) (w : World) (g : ¬ (FrG p0 q0 ∧ FrG p1 q1)) : Calls Tryd.prog 6 #[.agg #[.int .i64 p0, .int .i64 q0], .agg #[.int .i64 p1, .int .i64 q1]] w (GivesFB w 0 0 false) := by
  have h := Below.refl w.heap.size w
  have hA := below_alloc1 w (.cells #[.int .i64 p0, .int .i64 q0] 24)
  replace h := Below.step h hA
  have hx0 := Box.new w 24 #[.int .i64 p0, .int .i64 q0]
  clear hA
  have hA := below_alloc1 (w.alloc (.cells #[.int .i64 p0, .int .i64 q0] 24)) (.cells #[.int .i64 p1, .int .i64 q1] 24)
  replace h := Below.step h hA
  replace hx0 := hx0.kept hA
  have hx1 := Box.new (w.alloc (.cells #[.int .i64 p0, .int .i64 q0] 24)) 24 #[.int .i64 p1, .int .i64 q1]
  rw [show (w.alloc (.cells #[.int .i64 p0, .int .i64 q0] 24)).heap.size = w.heap.size + 1 from by simp] at hx1
  clear hA
  have hA := below_alloc1 ((w.alloc (.cells #[.int .i64 p0, .int .i64 q0] 24)).alloc (.cells #[.int .i64 p1, .int .i64 q1] 24)) (.cells #[.int .i64 0, .int .i64 0] 24)
  replace h := Below.step h hA
  replace hx0 := hx0.kept hA
  replace hx1 := hx1.kept hA
  have hxr := Box.new ((w.alloc (.cells #[.int .i64 p0, .int .i64 q0] 24)).alloc (.cells #[.int .i64 p1, .int .i64 q1] 24)) 24 #[.int .i64 0, .int .i64 0]
  rw [show ((w.alloc (.cells #[.int .i64 p0, .int .i64 q0] 24)).alloc (.cells #[.int .i64 p1, .int .i64 q1] 24)).heap.size = w.heap.size + 1 + 1 from by simp] at hxr
  clear hA
  go_enter Tryd.func6, Tryd.ntmps6
  go_wp2_with fail
  refine (frTwo_no p0 q0 p1 q1 _ g).mono ?_
  rintro e w1 ⟨rfl, hb⟩
  replace h := Below.step h hb
  replace hx0 := hx0.kept hb
  replace hx1 := hx1.kept hb
  replace hxr := hxr.kept hb
  clear hb
  obtain ⟨ahx0, bhx0⟩ := hx0.two
  have lhx0 := hx0.lt
  obtain ⟨ahx1, bhx1⟩ := hx1.two
  have lhx1 := hx1.lt
  obtain ⟨ahxr, bhxr⟩ := hxr.two
  have lhxr := hxr.lt
  have f0 := hxr.free 0
  have f1 := hxr.free 1
  go_wp2_with fail
  refine bodyPost_ret (v := .tuple #[.agg #[.int .i64 (0), .int .i64 (0)], .bool false]) (by simp [results, Tryd.results6, go_sem, ahxr, bhxr]) rfl ⟨rfl, ?_⟩
  exact (h.setCell (by first | (simp; done) | (simp; omega)) _).setCell (by first | (simp; done) | (simp; omega)) _

set_option maxHeartbeats 1000000 in
theorem sumI_yes (p0 q0 p1 q1 : Int) (w : World) (hL : Lim w) (g0 : FrG p0 q0) (g1 : FrG p1 q1) :
    Calls Tryd.prog 5 #[.agg #[.int .i64 p0, .int .i64 q0], .agg #[.int .i64 p1, .int .i64 q1]] w (GivesFB w (lowRP (p0 * q1 + p1 * q0) (q0 * q1)) (lowRQ (p0 * q1 + p1 * q0) (q0 * q1)) (lowB (p0 * q1 + p1 * q0) (q0 * q1))) := by
  have g0' := g0
  obtain ⟨a1, a2, a3, a4, -⟩ := g0'
  have g1' := g1
  obtain ⟨b1, b2, b3, b4, -⟩ := g1'
  have m1 := fr_mul_1e18 (a := p0) (b := q1) (by omega) (by omega) (by omega) (by omega)
  have m2 := fr_mul_1e18 (a := p1) (b := q0) (by omega) (by omega) (by omega) (by omega)
  have m3 := fr_mul_1e18 (a := q0) (b := q1) (by omega) (by omega) (by omega) (by omega)
  have m4 := fr_mul_1e18 (a := p0) (b := p1) (by omega) (by omega) (by omega) (by omega)
  have m5 := fr_mul_1e18 (a := q0) (b := p1) (by omega) (by omega) (by omega) (by omega)
  obtain ⟨m1a, m1b⟩ := m1
  obtain ⟨m2a, m2b⟩ := m2
  obtain ⟨m3a, m3b⟩ := m3
  obtain ⟨m4a, m4b⟩ := m4
  obtain ⟨m5a, m5b⟩ := m5
  have hne : q0 * q1 ≠ 0 := Int.mul_ne_zero (by omega) (by omega)
  obtain ⟨P, hP⟩ : ∃ P, P = lowRP (p0 * q1 + p1 * q0) (q0 * q1) := ⟨_, rfl⟩
  obtain ⟨Q, hQ⟩ : ∃ Q, Q = lowRQ (p0 * q1 + p1 * q0) (q0 * q1) := ⟨_, rfl⟩
  obtain ⟨B, hB⟩ : ∃ B, B = lowB (p0 * q1 + p1 * q0) (q0 * q1) := ⟨_, rfl⟩
  have c1 := fun (W : World) (hL : Lim W) => inLowest_any (p0 * q1 + p1 * q0) (q0 * q1) W hL (by omega) (by omega) (by omega) (by omega) hne
  rw [← hP, ← hQ, ← hB] at c1
  rw [← hP, ← hQ, ← hB]
  replace c1 := Lib.hid c1
  clear hP hQ hB
  clear hne
  have h := Below.refl w.heap.size w
  have hA := below_alloc1 w (.cells #[.int .i64 p0, .int .i64 q0] 24)
  replace h := Below.step h hA
  have hx0 := Box.new w 24 #[.int .i64 p0, .int .i64 q0]
  clear hA
  have hA := below_alloc1 (w.alloc (.cells #[.int .i64 p0, .int .i64 q0] 24)) (.cells #[.int .i64 p1, .int .i64 q1] 24)
  replace h := Below.step h hA
  replace hx0 := hx0.kept hA
  have hx1 := Box.new (w.alloc (.cells #[.int .i64 p0, .int .i64 q0] 24)) 24 #[.int .i64 p1, .int .i64 q1]
  rw [show (w.alloc (.cells #[.int .i64 p0, .int .i64 q0] 24)).heap.size = w.heap.size + 1 from by simp] at hx1
  clear hA
  have hA := below_alloc1 ((w.alloc (.cells #[.int .i64 p0, .int .i64 q0] 24)).alloc (.cells #[.int .i64 p1, .int .i64 q1] 24)) (.cells #[.int .i64 0, .int .i64 0] 24)
  replace h := Below.step h hA
  replace hx0 := hx0.kept hA
  replace hx1 := hx1.kept hA
  have hxr := Box.new ((w.alloc (.cells #[.int .i64 p0, .int .i64 q0] 24)).alloc (.cells #[.int .i64 p1, .int .i64 q1] 24)) 24 #[.int .i64 0, .int .i64 0]
  rw [show ((w.alloc (.cells #[.int .i64 p0, .int .i64 q0] 24)).alloc (.cells #[.int .i64 p1, .int .i64 q1] 24)).heap.size = w.heap.size + 1 + 1 from by simp] at hxr
  clear hA
  go_enter Tryd.func5, Tryd.ntmps5
  go_wp2_with fail
  refine (isFractionI_yes p0 q0 _ (by exact hL.kept h) g0).mono ?_
  rintro e w1 ⟨rfl, hb⟩
  replace h := Below.step h hb
  replace hx0 := hx0.kept hb
  replace hx1 := hx1.kept hb
  replace hxr := hxr.kept hb
  clear hb
  obtain ⟨ahx0, bhx0⟩ := hx0.two
  have lhx0 := hx0.lt
  obtain ⟨ahx1, bhx1⟩ := hx1.two
  have lhx1 := hx1.lt
  obtain ⟨ahxr, bhxr⟩ := hxr.two
  have lhxr := hxr.lt
  go_wp2_with fail
  refine (isFractionI_yes p1 q1 _ (by exact hL.kept h) g1).mono ?_
  rintro e w2 ⟨rfl, hb⟩
  replace h := Below.step h hb
  replace hx0 := hx0.kept hb
  replace hx1 := hx1.kept hb
  replace hxr := hxr.kept hb
  clear hb ahx0 bhx0 lhx0 ahx1 bhx1 lhx1 ahxr bhxr lhxr
  obtain ⟨ahx0, bhx0⟩ := hx0.two
  have lhx0 := hx0.lt
  obtain ⟨ahx1, bhx1⟩ := hx1.two
  have lhx1 := hx1.lt
  obtain ⟨ahxr, bhxr⟩ := hxr.two
  have lhxr := hxr.lt
  go_wp2_with fail
  refine (c1.out _ (by exact hL.kept h)).mono ?_
  rintro e w3 ⟨rfl, hb⟩
  replace h := Below.step h hb
  replace hx0 := hx0.kept hb
  replace hx1 := hx1.kept hb
  replace hxr := hxr.kept hb
  clear hb ahx0 bhx0 lhx0 ahx1 bhx1 lhx1 ahxr bhxr lhxr
  obtain ⟨ahx0, bhx0⟩ := hx0.two
  have lhx0 := hx0.lt
  obtain ⟨ahx1, bhx1⟩ := hx1.two
  have lhx1 := hx1.lt
  obtain ⟨ahxr, bhxr⟩ := hxr.two
  have lhxr := hxr.lt
  have f0 := hxr.free 0
  have f1 := hxr.free 1
  go_wp2_with fail
  refine bodyPost_ret (v := .tuple #[.agg #[.int .i64 (P), .int .i64 (Q)], .bool B]) (by simp [results, Tryd.results5, go_sem, ahxr, bhxr]) rfl ⟨rfl, ?_⟩
  exact (h.setCell (by first | (simp; done) | (simp; omega)) _).setCell (by first | (simp; done) | (simp; omega)) _

set_option maxHeartbeats 1000000 in
theorem sumI_no0 (p0 q0 p1 q1 : Int) (w : World) (hL : Lim w) (g0 : ¬ FrG p0 q0) : Calls Tryd.prog 5 #[.agg #[.int .i64 p0, .int .i64 q0], .agg #[.int .i64 p1, .int .i64 q1]] w (GivesFB w 0 0 false) := by
  have h := Below.refl w.heap.size w
  have hA := below_alloc1 w (.cells #[.int .i64 p0, .int .i64 q0] 24)
  replace h := Below.step h hA
  have hx0 := Box.new w 24 #[.int .i64 p0, .int .i64 q0]
  clear hA
  have hA := below_alloc1 (w.alloc (.cells #[.int .i64 p0, .int .i64 q0] 24)) (.cells #[.int .i64 p1, .int .i64 q1] 24)
  replace h := Below.step h hA
  replace hx0 := hx0.kept hA
  have hx1 := Box.new (w.alloc (.cells #[.int .i64 p0, .int .i64 q0] 24)) 24 #[.int .i64 p1, .int .i64 q1]
  rw [show (w.alloc (.cells #[.int .i64 p0, .int .i64 q0] 24)).heap.size = w.heap.size + 1 from by simp] at hx1
  clear hA
  have hA := below_alloc1 ((w.alloc (.cells #[.int .i64 p0, .int .i64 q0] 24)).alloc (.cells #[.int .i64 p1, .int .i64 q1] 24)) (.cells #[.int .i64 0, .int .i64 0] 24)
  replace h := Below.step h hA
  replace hx0 := hx0.kept hA
  replace hx1 := hx1.kept hA
  have hxr := Box.new ((w.alloc (.cells #[.int .i64 p0, .int .i64 q0] 24)).alloc (.cells #[.int .i64 p1, .int .i64 q1] 24)) 24 #[.int .i64 0, .int .i64 0]
  rw [show ((w.alloc (.cells #[.int .i64 p0, .int .i64 q0] 24)).alloc (.cells #[.int .i64 p1, .int .i64 q1] 24)).heap.size = w.heap.size + 1 + 1 from by simp] at hxr
  clear hA
  go_enter Tryd.func5, Tryd.ntmps5
  go_wp2_with fail
  refine (isFractionI_no p0 q0 _ (by exact hL.kept h) g0).mono ?_
  rintro e w1 ⟨rfl, hb⟩
  replace h := Below.step h hb
  replace hx0 := hx0.kept hb
  replace hx1 := hx1.kept hb
  replace hxr := hxr.kept hb
  clear hb
  obtain ⟨ahx0, bhx0⟩ := hx0.two
  have lhx0 := hx0.lt
  obtain ⟨ahx1, bhx1⟩ := hx1.two
  have lhx1 := hx1.lt
  obtain ⟨ahxr, bhxr⟩ := hxr.two
  have lhxr := hxr.lt
  have f0 := hxr.free 0
  have f1 := hxr.free 1
  go_wp2_with fail
  refine bodyPost_ret (v := .tuple #[.agg #[.int .i64 (0), .int .i64 (0)], .bool false]) (by simp [results, Tryd.results5, go_sem, ahxr, bhxr]) rfl ⟨rfl, ?_⟩
  exact (h.setCell (by first | (simp; done) | (simp; omega)) _).setCell (by first | (simp; done) | (simp; omega)) _

set_option maxHeartbeats 1000000 in
theorem sumI_no1 (p0 q0 p1 q1 : Int) (w : World) (hL : Lim w) (g0 : FrG p0 q0) (g1 : ¬ FrG p1 q1) : Calls Tryd.prog 5 #[.agg #[.int .i64 p0, .int .i64 q0], .agg #[.int .i64 p1, .int .i64 q1]] w (GivesFB w 0 0 false) := by
  have h := Below.refl w.heap.size w
  have hA := below_alloc1 w (.cells #[.int .i64 p0, .int .i64 q0] 24)
  replace h := Below.step h hA
  have hx0 := Box.new w 24 #[.int .i64 p0, .int .i64 q0]
  clear hA
  have hA := below_alloc1 (w.alloc (.cells #[.int .i64 p0, .int .i64 q0] 24)) (.cells #[.int .i64 p1, .int .i64 q1] 24)
  replace h := Below.step h hA
  replace hx0 := hx0.kept hA
  have hx1 := Box.new (w.alloc (.cells #[.int .i64 p0, .int .i64 q0] 24)) 24 #[.int .i64 p1, .int .i64 q1]
  rw [show (w.alloc (.cells #[.int .i64 p0, .int .i64 q0] 24)).heap.size = w.heap.size + 1 from by simp] at hx1
  clear hA
  have hA := below_alloc1 ((w.alloc (.cells #[.int .i64 p0, .int .i64 q0] 24)).alloc (.cells #[.int .i64 p1, .int .i64 q1] 24)) (.cells #[.int .i64 0, .int .i64 0] 24)
  replace h := Below.step h hA
  replace hx0 := hx0.kept hA
  replace hx1 := hx1.kept hA
  have hxr := Box.new ((w.alloc (.cells #[.int .i64 p0, .int .i64 q0] 24)).alloc (.cells #[.int .i64 p1, .int .i64 q1] 24)) 24 #[.int .i64 0, .int .i64 0]
  rw [show ((w.alloc (.cells #[.int .i64 p0, .int .i64 q0] 24)).alloc (.cells #[.int .i64 p1, .int .i64 q1] 24)).heap.size = w.heap.size + 1 + 1 from by simp] at hxr
  clear hA
  go_enter Tryd.func5, Tryd.ntmps5
  go_wp2_with fail
  refine (isFractionI_yes p0 q0 _ (by exact hL.kept h) g0).mono ?_
  rintro e w1 ⟨rfl, hb⟩
  replace h := Below.step h hb
  replace hx0 := hx0.kept hb
  replace hx1 := hx1.kept hb
  replace hxr := hxr.kept hb
  clear hb
  obtain ⟨ahx0, bhx0⟩ := hx0.two
  have lhx0 := hx0.lt
  obtain ⟨ahx1, bhx1⟩ := hx1.two
  have lhx1 := hx1.lt
  obtain ⟨ahxr, bhxr⟩ := hxr.two
  have lhxr := hxr.lt
  go_wp2_with fail
  refine (isFractionI_no p1 q1 _ (by exact hL.kept h) g1).mono ?_
  rintro e w2 ⟨rfl, hb⟩
  replace h := Below.step h hb
  replace hx0 := hx0.kept hb
  replace hx1 := hx1.kept hb
  replace hxr := hxr.kept hb
  clear hb ahx0 bhx0 lhx0 ahx1 bhx1 lhx1 ahxr bhxr lhxr
  obtain ⟨ahx0, bhx0⟩ := hx0.two
  have lhx0 := hx0.lt
  obtain ⟨ahx1, bhx1⟩ := hx1.two
  have lhx1 := hx1.lt
  obtain ⟨ahxr, bhxr⟩ := hxr.two
  have lhxr := hxr.lt
  have f0 := hxr.free 0
  have f1 := hxr.free 1
  go_wp2_with fail
  refine bodyPost_ret (v := .tuple #[.agg #[.int .i64 (0), .int .i64 (0)], .bool false]) (by simp [results, Tryd.results5, go_sem, ahxr, bhxr]) rfl ⟨rfl, ?_⟩
  exact (h.setCell (by first | (simp; done) | (simp; omega)) _).setCell (by first | (simp; done) | (simp; omega)) _

theorem sumI_no (p0 q0 p1 q1 : Int) (w : World) (hL : Lim w) (g : ¬ (FrG p0 q0 ∧ FrG p1 q1)) : Calls Tryd.prog 5 #[.agg #[.int .i64 p0, .int .i64 q0], .agg #[.int .i64 p1, .int .i64 q1]] w (GivesFB w 0 0 false) := by
  by_cases g0 : FrG p0 q0
  · exact sumI_no1 p0 q0 p1 q1 w hL g0 (fun g1 => g ⟨g0, g1⟩)
  · exact sumI_no0 p0 q0 p1 q1 w hL g0

set_option maxHeartbeats 1000000 in
theorem frSub_any (p0 q0 p1 q1 : Int) (w : World) (g0 : FrG p0 q0) (g1 : FrG p1 q1) :
    Calls Tryd.prog 26 #[.agg #[.int .i64 p0, .int .i64 q0], .agg #[.int .i64 p1, .int .i64 q1]] w (GivesFB w (lowRP (p0 * q1 - p1 * q0) (q0 * q1)) (lowRQ (p0 * q1 - p1 * q0) (q0 * q1)) (lowB (p0 * q1 - p1 * q0) (q0 * q1))) := by
  obtain ⟨a1, a2, a3, a4, -⟩ := g0
  obtain ⟨b1, b2, b3, b4, -⟩ := g1
  have m1 := fr_mul_1e18 (a := p0) (b := q1) (by omega) (by omega) (by omega) (by omega)
  have m2 := fr_mul_1e18 (a := p1) (b := q0) (by omega) (by omega) (by omega) (by omega)
  have m3 := fr_mul_1e18 (a := q0) (b := q1) (by omega) (by omega) (by omega) (by omega)
  have m4 := fr_mul_1e18 (a := p0) (b := p1) (by omega) (by omega) (by omega) (by omega)
  have m5 := fr_mul_1e18 (a := q0) (b := p1) (by omega) (by omega) (by omega) (by omega)
  obtain ⟨m1a, m1b⟩ := m1
  obtain ⟨m2a, m2b⟩ := m2
  obtain ⟨m3a, m3b⟩ := m3
  obtain ⟨m4a, m4b⟩ := m4
  obtain ⟨m5a, m5b⟩ := m5
  obtain ⟨P, hP⟩ : ∃ P, P = lowRP (p0 * q1 - p1 * q0) (q0 * q1) := ⟨_, rfl⟩
  obtain ⟨Q, hQ⟩ : ∃ Q, Q = lowRQ (p0 * q1 - p1 * q0) (q0 * q1) := ⟨_, rfl⟩
  obtain ⟨B, hB⟩ : ∃ B, B = lowB (p0 * q1 - p1 * q0) (q0 * q1) := ⟨_, rfl⟩
  have c1 := fun (W : World) => frMake_any (p0 * q1 - p1 * q0) (q0 * q1) W (by omega) (by omega) (by omega) (by omega)
  rw [← hP, ← hQ, ← hB] at c1
  rw [← hP, ← hQ, ← hB]
  replace c1 := Lib.hid c1
  clear hP hQ hB
  have h := Below.refl w.heap.size w
  have hA := below_alloc1 w (.cells #[.int .i64 p0, .int .i64 q0] 24)
  replace h := Below.step h hA
  have hx0 := Box.new w 24 #[.int .i64 p0, .int .i64 q0]
  clear hA
  have hA := below_alloc1 (w.alloc (.cells #[.int .i64 p0, .int .i64 q0] 24)) (.cells #[.int .i64 p1, .int .i64 q1] 24)
  replace h := Below.step h hA
  replace hx0 := hx0.kept hA
  have hx1 := Box.new (w.alloc (.cells #[.int .i64 p0, .int .i64 q0] 24)) 24 #[.int .i64 p1, .int .i64 q1]
  rw [show (w.alloc (.cells #[.int .i64 p0, .int .i64 q0] 24)).heap.size = w.heap.size + 1 from by simp] at hx1
  clear hA
  have hA := below_alloc1 ((w.alloc (.cells #[.int .i64 p0, .int .i64 q0] 24)).alloc (.cells #[.int .i64 p1, .int .i64 q1] 24)) (.cells #[.int .i64 0, .int .i64 0] 24)
  replace h := Below.step h hA
  replace hx0 := hx0.kept hA
  replace hx1 := hx1.kept hA
  have hxr := Box.new ((w.alloc (.cells #[.int .i64 p0, .int .i64 q0] 24)).alloc (.cells #[.int .i64 p1, .int .i64 q1] 24)) 24 #[.int .i64 0, .int .i64 0]
  rw [show ((w.alloc (.cells #[.int .i64 p0, .int .i64 q0] 24)).alloc (.cells #[.int .i64 p1, .int .i64 q1] 24)).heap.size = w.heap.size + 1 + 1 from by simp] at hxr
  clear hA
  go_enter Tryd.func26, Tryd.ntmps26
  go_wp2_with fail
  refine (c1.out _).mono ?_
  rintro e w1 ⟨rfl, hb⟩
  replace h := Below.step h hb
  replace hx0 := hx0.kept hb
  replace hx1 := hx1.kept hb
  replace hxr := hxr.kept hb
  clear hb
  obtain ⟨ahx0, bhx0⟩ := hx0.two
  have lhx0 := hx0.lt
  obtain ⟨ahx1, bhx1⟩ := hx1.two
  have lhx1 := hx1.lt
  obtain ⟨ahxr, bhxr⟩ := hxr.two
  have lhxr := hxr.lt
  have f0 := hxr.free 0
  have f1 := hxr.free 1
  go_wp2_with fail
  refine bodyPost_ret (v := .tuple #[.agg #[.int .i64 (P), .int .i64 (Q)], .bool B]) (by simp [results, Tryd.results26, go_sem, ahxr, bhxr]) rfl ⟨rfl, ?_⟩
  exact (h.setCell (by first | (simp; done) | (simp; omega)) _).setCell (by first | (simp; done) | (simp; omega)) _

set_option maxHeartbeats 1000000 in
theorem differenceS_yes (p0 q0 p1 q1 : Int) (w : World) (g0 : FrG p0 q0) (g1 : FrG p1 q1) :
    Calls Tryd.prog 8 #[.agg #[.int .i64 p0, .int .i64 q0], .agg #[.int .i64 p1, .int .i64 q1]] w (GivesFB w (lowRP (p0 * q1 - p1 * q0) (q0 * q1)) (lowRQ (p0 * q1 - p1 * q0) (q0 * q1)) (lowB (p0 * q1 - p1 * q0) (q0 * q1))) := by
  obtain ⟨P, hP⟩ : ∃ P, P = lowRP (p0 * q1 - p1 * q0) (q0 * q1) := ⟨_, rfl⟩
  obtain ⟨Q, hQ⟩ : ∃ Q, Q = lowRQ (p0 * q1 - p1 * q0) (q0 * q1) := ⟨_, rfl⟩
  obtain ⟨B, hB⟩ : ∃ B, B = lowB (p0 * q1 - p1 * q0) (q0 * q1) := ⟨_, rfl⟩
  have c1 := fun (W : World) => frSub_any p0 q0 p1 q1 W g0 g1
  rw [← hP, ← hQ, ← hB] at c1
  rw [← hP, ← hQ, ← hB]
  replace c1 := Lib.hid c1
  clear hP hQ hB
  have h := Below.refl w.heap.size w
  have hA := below_alloc1 w (.cells #[.int .i64 p0, .int .i64 q0] 24)
  replace h := Below.step h hA
  have hx0 := Box.new w 24 #[.int .i64 p0, .int .i64 q0]
  clear hA
  have hA := below_alloc1 (w.alloc (.cells #[.int .i64 p0, .int .i64 q0] 24)) (.cells #[.int .i64 p1, .int .i64 q1] 24)
  replace h := Below.step h hA
  replace hx0 := hx0.kept hA
  have hx1 := Box.new (w.alloc (.cells #[.int .i64 p0, .int .i64 q0] 24)) 24 #[.int .i64 p1, .int .i64 q1]
  rw [show (w.alloc (.cells #[.int .i64 p0, .int .i64 q0] 24)).heap.size = w.heap.size + 1 from by simp] at hx1
  clear hA
  have hA := below_alloc1 ((w.alloc (.cells #[.int .i64 p0, .int .i64 q0] 24)).alloc (.cells #[.int .i64 p1, .int .i64 q1] 24)) (.cells #[.int .i64 0, .int .i64 0] 24)
  replace h := Below.step h hA
  replace hx0 := hx0.kept hA
  replace hx1 := hx1.kept hA
  have hxr := Box.new ((w.alloc (.cells #[.int .i64 p0, .int .i64 q0] 24)).alloc (.cells #[.int .i64 p1, .int .i64 q1] 24)) 24 #[.int .i64 0, .int .i64 0]
  rw [show ((w.alloc (.cells #[.int .i64 p0, .int .i64 q0] 24)).alloc (.cells #[.int .i64 p1, .int .i64 q1] 24)).heap.size = w.heap.size + 1 + 1 from by simp] at hxr
  clear hA
  go_enter Tryd.func8, Tryd.ntmps8
  go_wp2_with fail
  refine (frTwo_yes p0 q0 p1 q1 _ g0 g1).mono ?_
  rintro e w1 ⟨rfl, hb⟩
  replace h := Below.step h hb
  replace hx0 := hx0.kept hb
  replace hx1 := hx1.kept hb
  replace hxr := hxr.kept hb
  clear hb
  obtain ⟨ahx0, bhx0⟩ := hx0.two
  have lhx0 := hx0.lt
  obtain ⟨ahx1, bhx1⟩ := hx1.two
  have lhx1 := hx1.lt
  obtain ⟨ahxr, bhxr⟩ := hxr.two
  have lhxr := hxr.lt
  go_wp2_with fail
  refine (c1.out _).mono ?_
  rintro e w2 ⟨rfl, hb⟩
  replace h := Below.step h hb
  replace hx0 := hx0.kept hb
  replace hx1 := hx1.kept hb
  replace hxr := hxr.kept hb
  clear hb ahx0 bhx0 lhx0 ahx1 bhx1 lhx1 ahxr bhxr lhxr
  obtain ⟨ahx0, bhx0⟩ := hx0.two
  have lhx0 := hx0.lt
  obtain ⟨ahx1, bhx1⟩ := hx1.two
  have lhx1 := hx1.lt
  obtain ⟨ahxr, bhxr⟩ := hxr.two
  have lhxr := hxr.lt
  have f0 := hxr.free 0
  have f1 := hxr.free 1
  go_wp2_with fail
  refine bodyPost_ret (v := .tuple #[.agg #[.int .i64 (P), .int .i64 (Q)], .bool B]) (by simp [results, Tryd.results8, go_sem, ahxr, bhxr]) rfl ⟨rfl, ?_⟩
  exact (h.setCell (by first | (simp; done) | (simp; omega)) _).setCell (by first | (simp; done) | (simp; omega)) _

set_option maxHeartbeats 1000000 in
theorem differenceS_no (p0 q0 p1 q1 : Int) (w : World) (g : ¬ (FrG p0 q0 ∧ FrG p1 q1)) : Calls Tryd.prog 8 #[.agg #[.int .i64 p0, .int .i64 q0], .agg #[.int .i64 p1, .int .i64 q1]] w (GivesFB w 0 0 false) := by
  have h := Below.refl w.heap.size w
  have hA := below_alloc1 w (.cells #[.int .i64 p0, .int .i64 q0] 24)
  replace h := Below.step h hA
  have hx0 := Box.new w 24 #[.int .i64 p0, .int .i64 q0]
  clear hA
  have hA := below_alloc1 (w.alloc (.cells #[.int .i64 p0, .int .i64 q0] 24)) (.cells #[.int .i64 p1, .int .i64 q1] 24)
  replace h := Below.step h hA
  replace hx0 := hx0.kept hA
  have hx1 := Box.new (w.alloc (.cells #[.int .i64 p0, .int .i64 q0] 24)) 24 #[.int .i64 p1, .int .i64 q1]
  rw [show (w.alloc (.cells #[.int .i64 p0, .int .i64 q0] 24)).heap.size = w.heap.size + 1 from by simp] at hx1
  clear hA
  have hA := below_alloc1 ((w.alloc (.cells #[.int .i64 p0, .int .i64 q0] 24)).alloc (.cells #[.int .i64 p1, .int .i64 q1] 24)) (.cells #[.int .i64 0, .int .i64 0] 24)
  replace h := Below.step h hA
  replace hx0 := hx0.kept hA
  replace hx1 := hx1.kept hA
  have hxr := Box.new ((w.alloc (.cells #[.int .i64 p0, .int .i64 q0] 24)).alloc (.cells #[.int .i64 p1, .int .i64 q1] 24)) 24 #[.int .i64 0, .int .i64 0]
  rw [show ((w.alloc (.cells #[.int .i64 p0, .int .i64 q0] 24)).alloc (.cells #[.int .i64 p1, .int .i64 q1] 24)).heap.size = w.heap.size + 1 + 1 from by simp] at hxr
  clear hA
  go_enter Tryd.func8, Tryd.ntmps8
  go_wp2_with fail
  refine (frTwo_no p0 q0 p1 q1 _ g).mono ?_
  rintro e w1 ⟨rfl, hb⟩
  replace h := Below.step h hb
  replace hx0 := hx0.kept hb
  replace hx1 := hx1.kept hb
  replace hxr := hxr.kept hb
  clear hb
  obtain ⟨ahx0, bhx0⟩ := hx0.two
  have lhx0 := hx0.lt
  obtain ⟨ahx1, bhx1⟩ := hx1.two
  have lhx1 := hx1.lt
  obtain ⟨ahxr, bhxr⟩ := hxr.two
  have lhxr := hxr.lt
  have f0 := hxr.free 0
  have f1 := hxr.free 1
  go_wp2_with fail
  refine bodyPost_ret (v := .tuple #[.agg #[.int .i64 (0), .int .i64 (0)], .bool false]) (by simp [results, Tryd.results8, go_sem, ahxr, bhxr]) rfl ⟨rfl, ?_⟩
  exact (h.setCell (by first | (simp; done) | (simp; omega)) _).setCell (by first | (simp; done) | (simp; omega)) _

set_option maxHeartbeats 1000000 in
theorem frMul_any (p0 q0 p1 q1 : Int) (w : World) (g0 : FrG p0 q0) (g1 : FrG p1 q1) :
    Calls Tryd.prog 27 #[.agg #[.int .i64 p0, .int .i64 q0], .agg #[.int .i64 p1, .int .i64 q1]] w (GivesFB w (lowRP (p0 * p1) (q0 * q1)) (lowRQ (p0 * p1) (q0 * q1)) (lowB (p0 * p1) (q0 * q1))) := by
  obtain ⟨a1, a2, a3, a4, -⟩ := g0
  obtain ⟨b1, b2, b3, b4, -⟩ := g1
  have m1 := fr_mul_1e18 (a := p0) (b := q1) (by omega) (by omega) (by omega) (by omega)
  have m2 := fr_mul_1e18 (a := p1) (b := q0) (by omega) (by omega) (by omega) (by omega)
  have m3 := fr_mul_1e18 (a := q0) (b := q1) (by omega) (by omega) (by omega) (by omega)
  have m4 := fr_mul_1e18 (a := p0) (b := p1) (by omega) (by omega) (by omega) (by omega)
  have m5 := fr_mul_1e18 (a := q0) (b := p1) (by omega) (by omega) (by omega) (by omega)
  obtain ⟨m1a, m1b⟩ := m1
  obtain ⟨m2a, m2b⟩ := m2
  obtain ⟨m3a, m3b⟩ := m3
  obtain ⟨m4a, m4b⟩ := m4
  obtain ⟨m5a, m5b⟩ := m5
  obtain ⟨P, hP⟩ : ∃ P, P = lowRP (p0 * p1) (q0 * q1) := ⟨_, rfl⟩
  obtain ⟨Q, hQ⟩ : ∃ Q, Q = lowRQ (p0 * p1) (q0 * q1) := ⟨_, rfl⟩
  obtain ⟨B, hB⟩ : ∃ B, B = lowB (p0 * p1) (q0 * q1) := ⟨_, rfl⟩
  have c1 := fun (W : World) => frMake_any (p0 * p1) (q0 * q1) W (by omega) (by omega) (by omega) (by omega)
  rw [← hP, ← hQ, ← hB] at c1
  rw [← hP, ← hQ, ← hB]
  replace c1 := Lib.hid c1
  clear hP hQ hB
  have h := Below.refl w.heap.size w
  have hA := below_alloc1 w (.cells #[.int .i64 p0, .int .i64 q0] 24)
  replace h := Below.step h hA
  have hx0 := Box.new w 24 #[.int .i64 p0, .int .i64 q0]
  clear hA
  have hA := below_alloc1 (w.alloc (.cells #[.int .i64 p0, .int .i64 q0] 24)) (.cells #[.int .i64 p1, .int .i64 q1] 24)
  replace h := Below.step h hA
  replace hx0 := hx0.kept hA
  have hx1 := Box.new (w.alloc (.cells #[.int .i64 p0, .int .i64 q0] 24)) 24 #[.int .i64 p1, .int .i64 q1]
  rw [show (w.alloc (.cells #[.int .i64 p0, .int .i64 q0] 24)).heap.size = w.heap.size + 1 from by simp] at hx1
  clear hA
  have hA := below_alloc1 ((w.alloc (.cells #[.int .i64 p0, .int .i64 q0] 24)).alloc (.cells #[.int .i64 p1, .int .i64 q1] 24)) (.cells #[.int .i64 0, .int .i64 0] 24)
  replace h := Below.step h hA
  replace hx0 := hx0.kept hA
  replace hx1 := hx1.kept hA
  have hxr := Box.new ((w.alloc (.cells #[.int .i64 p0, .int .i64 q0] 24)).alloc (.cells #[.int .i64 p1, .int .i64 q1] 24)) 24 #[.int .i64 0, .int .i64 0]
  rw [show ((w.alloc (.cells #[.int .i64 p0, .int .i64 q0] 24)).alloc (.cells #[.int .i64 p1, .int .i64 q1] 24)).heap.size = w.heap.size + 1 + 1 from by simp] at hxr
  clear hA
  go_enter Tryd.func27, Tryd.ntmps27
  go_wp2_with fail
  refine (c1.out _).mono ?_
  rintro e w1 ⟨rfl, hb⟩
  replace h := Below.step h hb
  replace hx0 := hx0.kept hb
  replace hx1 := hx1.kept hb
  replace hxr := hxr.kept hb
  clear hb
  obtain ⟨ahx0, bhx0⟩ := hx0.two
  have lhx0 := hx0.lt
  obtain ⟨ahx1, bhx1⟩ := hx1.two
  have lhx1 := hx1.lt
  obtain ⟨ahxr, bhxr⟩ := hxr.two
  have lhxr := hxr.lt
  have f0 := hxr.free 0
  have f1 := hxr.free 1
  go_wp2_with fail
  refine bodyPost_ret (v := .tuple #[.agg #[.int .i64 (P), .int .i64 (Q)], .bool B]) (by simp [results, Tryd.results27, go_sem, ahxr, bhxr]) rfl ⟨rfl, ?_⟩
  exact (h.setCell (by first | (simp; done) | (simp; omega)) _).setCell (by first | (simp; done) | (simp; omega)) _

set_option maxHeartbeats 1000000 in
theorem productS_yes (p0 q0 p1 q1 : Int) (w : World) (g0 : FrG p0 q0) (g1 : FrG p1 q1) :
    Calls Tryd.prog 10 #[.agg #[.int .i64 p0, .int .i64 q0], .agg #[.int .i64 p1, .int .i64 q1]] w (GivesFB w (lowRP (p0 * p1) (q0 * q1)) (lowRQ (p0 * p1) (q0 * q1)) (lowB (p0 * p1) (q0 * q1))) := by
  obtain ⟨P, hP⟩ : ∃ P, P = lowRP (p0 * p1) (q0 * q1) := ⟨_, rfl⟩
  obtain ⟨Q, hQ⟩ : ∃ Q, Q = lowRQ (p0 * p1) (q0 * q1) := ⟨_, rfl⟩
  obtain ⟨B, hB⟩ : ∃ B, B = lowB (p0 * p1) (q0 * q1) := ⟨_, rfl⟩
  have c1 := fun (W : World) => frMul_any p0 q0 p1 q1 W g0 g1
  rw [← hP, ← hQ, ← hB] at c1
  rw [← hP, ← hQ, ← hB]
  replace c1 := Lib.hid c1
  clear hP hQ hB
  have h := Below.refl w.heap.size w
  have hA := below_alloc1 w (.cells #[.int .i64 p0, .int .i64 q0] 24)
  replace h := Below.step h hA
  have hx0 := Box.new w 24 #[.int .i64 p0, .int .i64 q0]
  clear hA
  have hA := below_alloc1 (w.alloc (.cells #[.int .i64 p0, .int .i64 q0] 24)) (.cells #[.int .i64 p1, .int .i64 q1] 24)
  replace h := Below.step h hA
  replace hx0 := hx0.kept hA
  have hx1 := Box.new (w.alloc (.cells #[.int .i64 p0, .int .i64 q0] 24)) 24 #[.int .i64 p1, .int .i64 q1]
  rw [show (w.alloc (.cells #[.int .i64 p0, .int .i64 q0] 24)).heap.size = w.heap.size + 1 from by simp] at hx1
  clear hA
  have hA := below_alloc1 ((w.alloc (.cells #[.int .i64 p0, .int .i64 q0] 24)).alloc (.cells #[.int .i64 p1, .int .i64 q1] 24)) (.cells #[.int .i64 0, .int .i64 0] 24)
  replace h := Below.step h hA
  replace hx0 := hx0.kept hA
  replace hx1 := hx1.kept hA
  have hxr := Box.new ((w.alloc (.cells #[.int .i64 p0, .int .i64 q0] 24)).alloc (.cells #[.int .i64 p1, .int .i64 q1] 24)) 24 #[.int .i64 0, .int .i64 0]
  rw [show ((w.alloc (.cells #[.int .i64 p0, .int .i64 q0] 24)).alloc (.cells #[.int .i64 p1, .int .i64 q1] 24)).heap.size = w.heap.size + 1 + 1 from by simp] at hxr
  clear hA
  go_enter Tryd.func10, Tryd.ntmps10
  go_wp2_with fail
  refine (frTwo_yes p0 q0 p1 q1 _ g0 g1).mono ?_
  rintro e w1 ⟨rfl, hb⟩
  replace h := Below.step h hb
  replace hx0 := hx0.kept hb
  replace hx1 := hx1.kept hb
  replace hxr := hxr.kept hb
  clear hb
  obtain ⟨ahx0, bhx0⟩ := hx0.two
  have lhx0 := hx0.lt
  obtain ⟨ahx1, bhx1⟩ := hx1.two
  have lhx1 := hx1.lt
  obtain ⟨ahxr, bhxr⟩ := hxr.two
  have lhxr := hxr.lt
  go_wp2_with fail
  refine (c1.out _).mono ?_
  rintro e w2 ⟨rfl, hb⟩
  replace h := Below.step h hb
  replace hx0 := hx0.kept hb
  replace hx1 := hx1.kept hb
  replace hxr := hxr.kept hb
  clear hb ahx0 bhx0 lhx0 ahx1 bhx1 lhx1 ahxr bhxr lhxr
  obtain ⟨ahx0, bhx0⟩ := hx0.two
  have lhx0 := hx0.lt
  obtain ⟨ahx1, bhx1⟩ := hx1.two
  have lhx1 := hx1.lt
  obtain ⟨ahxr, bhxr⟩ := hxr.two
  have lhxr := hxr.lt
  have f0 := hxr.free 0
  have f1 := hxr.free 1
  go_wp2_with fail
  refine bodyPost_ret (v := .tuple #[.agg #[.int .i64 (P), .int .i64 (Q)], .bool B]) (by simp [results, Tryd.results10, go_sem, ahxr, bhxr]) rfl ⟨rfl, ?_⟩
  exact (h.setCell (by first | (simp; done) | (simp; omega)) _).setCell (by first | (simp; done) | (simp; omega)) _

set_option maxHeartbeats 1000000 in
theorem productS_no (p0 q0 p1 q1 : Int) (w : World) (g : ¬ (FrG p0 q0 ∧ FrG p1 q1)) : Calls Tryd.prog 10 #[.agg #[.int .i64 p0, .int .i64 q0], .agg #[.int .i64 p1, .int .i64 q1]] w (GivesFB w 0 0 false) := by
  have h := Below.refl w.heap.size w
  have hA := below_alloc1 w (.cells #[.int .i64 p0, .int .i64 q0] 24)
  replace h := Below.step h hA
  have hx0 := Box.new w 24 #[.int .i64 p0, .int .i64 q0]
  clear hA
  have hA := below_alloc1 (w.alloc (.cells #[.int .i64 p0, .int .i64 q0] 24)) (.cells #[.int .i64 p1, .int .i64 q1] 24)
  replace h := Below.step h hA
  replace hx0 := hx0.kept hA
  have hx1 := Box.new (w.alloc (.cells #[.int .i64 p0, .int .i64 q0] 24)) 24 #[.int .i64 p1, .int .i64 q1]
  rw [show (w.alloc (.cells #[.int .i64 p0, .int .i64 q0] 24)).heap.size = w.heap.size + 1 from by simp] at hx1
  clear hA
  have hA := below_alloc1 ((w.alloc (.cells #[.int .i64 p0, .int .i64 q0] 24)).alloc (.cells #[.int .i64 p1, .int .i64 q1] 24)) (.cells #[.int .i64 0, .int .i64 0] 24)
  replace h := Below.step h hA
  replace hx0 := hx0.kept hA
  replace hx1 := hx1.kept hA
  have hxr := Box.new ((w.alloc (.cells #[.int .i64 p0, .int .i64 q0] 24)).alloc (.cells #[.int .i64 p1, .int .i64 q1] 24)) 24 #[.int .i64 0, .int .i64 0]
  rw [show ((w.alloc (.cells #[.int .i64 p0, .int .i64 q0] 24)).alloc (.cells #[.int .i64 p1, .int .i64 q1] 24)).heap.size = w.heap.size + 1 + 1 from by simp] at hxr
  clear hA
  go_enter Tryd.func10, Tryd.ntmps10
  go_wp2_with fail
  refine (frTwo_no p0 q0 p1 q1 _ g).mono ?_
  rintro e w1 ⟨rfl, hb⟩
  replace h := Below.step h hb
  replace hx0 := hx0.kept hb
  replace hx1 := hx1.kept hb
  replace hxr := hxr.kept hb
  clear hb
  obtain ⟨ahx0, bhx0⟩ := hx0.two
  have lhx0 := hx0.lt
  obtain ⟨ahx1, bhx1⟩ := hx1.two
  have lhx1 := hx1.lt
  obtain ⟨ahxr, bhxr⟩ := hxr.two
  have lhxr := hxr.lt
  have f0 := hxr.free 0
  have f1 := hxr.free 1
  go_wp2_with fail
  refine bodyPost_ret (v := .tuple #[.agg #[.int .i64 (0), .int .i64 (0)], .bool false]) (by simp [results, Tryd.results10, go_sem, ahxr, bhxr]) rfl ⟨rfl, ?_⟩
  exact (h.setCell (by first | (simp; done) | (simp; omega)) _).setCell (by first | (simp; done) | (simp; omega)) _

set_option maxHeartbeats 1000000 in
theorem productI_yes (p0 q0 p1 q1 : Int) (w : World) (hL : Lim w) (g0 : FrG p0 q0) (g1 : FrG p1 q1) :
    Calls Tryd.prog 9 #[.agg #[.int .i64 p0, .int .i64 q0], .agg #[.int .i64 p1, .int .i64 q1]] w (GivesFB w (lowRP (p0 * p1) (q0 * q1)) (lowRQ (p0 * p1) (q0 * q1)) (lowB (p0 * p1) (q0 * q1))) := by
  have g0' := g0
  obtain ⟨a1, a2, a3, a4, -⟩ := g0'
  have g1' := g1
  obtain ⟨b1, b2, b3, b4, -⟩ := g1'
  have m1 := fr_mul_1e18 (a := p0) (b := q1) (by omega) (by omega) (by omega) (by omega)
  have m2 := fr_mul_1e18 (a := p1) (b := q0) (by omega) (by omega) (by omega) (by omega)
  have m3 := fr_mul_1e18 (a := q0) (b := q1) (by omega) (by omega) (by omega) (by omega)
  have m4 := fr_mul_1e18 (a := p0) (b := p1) (by omega) (by omega) (by omega) (by omega)
  have m5 := fr_mul_1e18 (a := q0) (b := p1) (by omega) (by omega) (by omega) (by omega)
  obtain ⟨m1a, m1b⟩ := m1
  obtain ⟨m2a, m2b⟩ := m2
  obtain ⟨m3a, m3b⟩ := m3
  obtain ⟨m4a, m4b⟩ := m4
  obtain ⟨m5a, m5b⟩ := m5
  have hne : q0 * q1 ≠ 0 := Int.mul_ne_zero (by omega) (by omega)
  obtain ⟨P, hP⟩ : ∃ P, P = lowRP (p0 * p1) (q0 * q1) := ⟨_, rfl⟩
  obtain ⟨Q, hQ⟩ : ∃ Q, Q = lowRQ (p0 * p1) (q0 * q1) := ⟨_, rfl⟩
  obtain ⟨B, hB⟩ : ∃ B, B = lowB (p0 * p1) (q0 * q1) := ⟨_, rfl⟩
  have c1 := fun (W : World) (hL : Lim W) => inLowest_any (p0 * p1) (q0 * q1) W hL (by omega) (by omega) (by omega) (by omega) hne
  rw [← hP, ← hQ, ← hB] at c1
  rw [← hP, ← hQ, ← hB]
  replace c1 := Lib.hid c1
  clear hP hQ hB
  clear hne
  have h := Below.refl w.heap.size w
  have hA := below_alloc1 w (.cells #[.int .i64 p0, .int .i64 q0] 24)
  replace h := Below.step h hA
  have hx0 := Box.new w 24 #[.int .i64 p0, .int .i64 q0]
  clear hA
  have hA := below_alloc1 (w.alloc (.cells #[.int .i64 p0, .int .i64 q0] 24)) (.cells #[.int .i64 p1, .int .i64 q1] 24)
  replace h := Below.step h hA
  replace hx0 := hx0.kept hA
  have hx1 := Box.new (w.alloc (.cells #[.int .i64 p0, .int .i64 q0] 24)) 24 #[.int .i64 p1, .int .i64 q1]
  rw [show (w.alloc (.cells #[.int .i64 p0, .int .i64 q0] 24)).heap.size = w.heap.size + 1 from by simp] at hx1
  clear hA
  have hA := below_alloc1 ((w.alloc (.cells #[.int .i64 p0, .int .i64 q0] 24)).alloc (.cells #[.int .i64 p1, .int .i64 q1] 24)) (.cells #[.int .i64 0, .int .i64 0] 24)
  replace h := Below.step h hA
  replace hx0 := hx0.kept hA
  replace hx1 := hx1.kept hA
  have hxr := Box.new ((w.alloc (.cells #[.int .i64 p0, .int .i64 q0] 24)).alloc (.cells #[.int .i64 p1, .int .i64 q1] 24)) 24 #[.int .i64 0, .int .i64 0]
  rw [show ((w.alloc (.cells #[.int .i64 p0, .int .i64 q0] 24)).alloc (.cells #[.int .i64 p1, .int .i64 q1] 24)).heap.size = w.heap.size + 1 + 1 from by simp] at hxr
  clear hA
  go_enter Tryd.func9, Tryd.ntmps9
  go_wp2_with fail
  refine (isFractionI_yes p0 q0 _ (by exact hL.kept h) g0).mono ?_
  rintro e w1 ⟨rfl, hb⟩
  replace h := Below.step h hb
  replace hx0 := hx0.kept hb
  replace hx1 := hx1.kept hb
  replace hxr := hxr.kept hb
  clear hb
  obtain ⟨ahx0, bhx0⟩ := hx0.two
  have lhx0 := hx0.lt
  obtain ⟨ahx1, bhx1⟩ := hx1.two
  have lhx1 := hx1.lt
  obtain ⟨ahxr, bhxr⟩ := hxr.two
  have lhxr := hxr.lt
  go_wp2_with fail
  refine (isFractionI_yes p1 q1 _ (by exact hL.kept h) g1).mono ?_
  rintro e w2 ⟨rfl, hb⟩
  replace h := Below.step h hb
  replace hx0 := hx0.kept hb
  replace hx1 := hx1.kept hb
  replace hxr := hxr.kept hb
  clear hb ahx0 bhx0 lhx0 ahx1 bhx1 lhx1 ahxr bhxr lhxr
  obtain ⟨ahx0, bhx0⟩ := hx0.two
  have lhx0 := hx0.lt
  obtain ⟨ahx1, bhx1⟩ := hx1.two
  have lhx1 := hx1.lt
  obtain ⟨ahxr, bhxr⟩ := hxr.two
  have lhxr := hxr.lt
  go_wp2_with fail
  refine (c1.out _ (by exact hL.kept h)).mono ?_
  rintro e w3 ⟨rfl, hb⟩
  replace h := Below.step h hb
  replace hx0 := hx0.kept hb
  replace hx1 := hx1.kept hb
  replace hxr := hxr.kept hb
  clear hb ahx0 bhx0 lhx0 ahx1 bhx1 lhx1 ahxr bhxr lhxr
  obtain ⟨ahx0, bhx0⟩ := hx0.two
  have lhx0 := hx0.lt
  obtain ⟨ahx1, bhx1⟩ := hx1.two
  have lhx1 := hx1.lt
  obtain ⟨ahxr, bhxr⟩ := hxr.two
  have lhxr := hxr.lt
  have f0 := hxr.free 0
  have f1 := hxr.free 1
  go_wp2_with fail
  refine bodyPost_ret (v := .tuple #[.agg #[.int .i64 (P), .int .i64 (Q)], .bool B]) (by simp [results, Tryd.results9, go_sem, ahxr, bhxr]) rfl ⟨rfl, ?_⟩
  exact (h.setCell (by first | (simp; done) | (simp; omega)) _).setCell (by first | (simp; done) | (simp; omega)) _

set_option maxHeartbeats 1000000 in
theorem productI_no0 (p0 q0 p1 q1 : Int) (w : World) (hL : Lim w) (g0 : ¬ FrG p0 q0) : Calls Tryd.prog 9 #[.agg #[.int .i64 p0, .int .i64 q0], .agg #[.int .i64 p1, .int .i64 q1]] w (GivesFB w 0 0 false) := by
  have h := Below.refl w.heap.size w
  have hA := below_alloc1 w (.cells #[.int .i64 p0, .int .i64 q0] 24)
  replace h := Below.step h hA
  have hx0 := Box.new w 24 #[.int .i64 p0, .int .i64 q0]
  clear hA
  have hA := below_alloc1 (w.alloc (.cells #[.int .i64 p0, .int .i64 q0] 24)) (.cells #[.int .i64 p1, .int .i64 q1] 24)
  replace h := Below.step h hA
  replace hx0 := hx0.kept hA
  have hx1 := Box.new (w.alloc (.cells #[.int .i64 p0, .int .i64 q0] 24)) 24 #[.int .i64 p1, .int .i64 q1]
  rw [show (w.alloc (.cells #[.int .i64 p0, .int .i64 q0] 24)).heap.size = w.heap.size + 1 from by simp] at hx1
  clear hA
  have hA := below_alloc1 ((w.alloc (.cells #[.int .i64 p0, .int .i64 q0] 24)).alloc (.cells #[.int .i64 p1, .int .i64 q1] 24)) (.cells #[.int .i64 0, .int .i64 0] 24)
  replace h := Below.step h hA
  replace hx0 := hx0.kept hA
  replace hx1 := hx1.kept hA
  have hxr := Box.new ((w.alloc (.cells #[.int .i64 p0, .int .i64 q0] 24)).alloc (.cells #[.int .i64 p1, .int .i64 q1] 24)) 24 #[.int .i64 0, .int .i64 0]
  rw [show ((w.alloc (.cells #[.int .i64 p0, .int .i64 q0] 24)).alloc (.cells #[.int .i64 p1, .int .i64 q1] 24)).heap.size = w.heap.size + 1 + 1 from by simp] at hxr
  clear hA
  go_enter Tryd.func9, Tryd.ntmps9
  go_wp2_with fail
  refine (isFractionI_no p0 q0 _ (by exact hL.kept h) g0).mono ?_
  rintro e w1 ⟨rfl, hb⟩
  replace h := Below.step h hb
  replace hx0 := hx0.kept hb
  replace hx1 := hx1.kept hb
  replace hxr := hxr.kept hb
  clear hb
  obtain ⟨ahx0, bhx0⟩ := hx0.two
  have lhx0 := hx0.lt
  obtain ⟨ahx1, bhx1⟩ := hx1.two
  have lhx1 := hx1.lt
  obtain ⟨ahxr, bhxr⟩ := hxr.two
  have lhxr := hxr.lt
  have f0 := hxr.free 0
  have f1 := hxr.free 1
  go_wp2_with fail
  refine bodyPost_ret (v := .tuple #[.agg #[.int .i64 (0), .int .i64 (0)], .bool false]) (by simp [results, Tryd.results9, go_sem, ahxr, bhxr]) rfl ⟨rfl, ?_⟩
  exact (h.setCell (by first | (simp; done) | (simp; omega)) _).setCell (by first | (simp; done) | (simp; omega)) _

set_option maxHeartbeats 1000000 in
theorem productI_no1 (p0 q0 p1 q1 : Int) (w : World) (hL : Lim w) (g0 : FrG p0 q0) (g1 : ¬ FrG p1 q1) : Calls Tryd.prog 9 #[.agg #[.int .i64 p0, .int .i64 q0], .agg #[.int .i64 p1, .int .i64 q1]] w (GivesFB w 0 0 false) := by
  have h := Below.refl w.heap.size w
  have hA := below_alloc1 w (.cells #[.int .i64 p0, .int .i64 q0] 24)
  replace h := Below.step h hA
  have hx0 := Box.new w 24 #[.int .i64 p0, .int .i64 q0]
  clear hA
  have hA := below_alloc1 (w.alloc (.cells #[.int .i64 p0, .int .i64 q0] 24)) (.cells #[.int .i64 p1, .int .i64 q1] 24)
  replace h := Below.step h hA
  replace hx0 := hx0.kept hA
  have hx1 := Box.new (w.alloc (.cells #[.int .i64 p0, .int .i64 q0] 24)) 24 #[.int .i64 p1, .int .i64 q1]
  rw [show (w.alloc (.cells #[.int .i64 p0, .int .i64 q0] 24)).heap.size = w.heap.size + 1 from by simp] at hx1
  clear hA
  have hA := below_alloc1 ((w.alloc (.cells #[.int .i64 p0, .int .i64 q0] 24)).alloc (.cells #[.int .i64 p1, .int .i64 q1] 24)) (.cells #[.int .i64 0, .int .i64 0] 24)
  replace h := Below.step h hA
  replace hx0 := hx0.kept hA
  replace hx1 := hx1.kept hA
  have hxr := Box.new ((w.alloc (.cells #[.int .i64 p0, .int .i64 q0] 24)).alloc (.cells #[.int .i64 p1, .int .i64 q1] 24)) 24 #[.int .i64 0, .int .i64 0]
  rw [show ((w.alloc (.cells #[.int .i64 p0, .int .i64 q0] 24)).alloc (.cells #[.int .i64 p1, .int .i64 q1] 24)).heap.size = w.heap.size + 1 + 1 from by simp] at hxr
  clear hA
  go_enter Tryd.func9, Tryd.ntmps9
  go_wp2_with fail
  refine (isFractionI_yes p0 q0 _ (by exact hL.kept h) g0).mono ?_
  rintro e w1 ⟨rfl, hb⟩
  replace h := Below.step h hb
  replace hx0 := hx0.kept hb
  replace hx1 := hx1.kept hb
  replace hxr := hxr.kept hb
  clear hb
  obtain ⟨ahx0, bhx0⟩ := hx0.two
  have lhx0 := hx0.lt
  obtain ⟨ahx1, bhx1⟩ := hx1.two
  have lhx1 := hx1.lt
  obtain ⟨ahxr, bhxr⟩ := hxr.two
  have lhxr := hxr.lt
  go_wp2_with fail
  refine (isFractionI_no p1 q1 _ (by exact hL.kept h) g1).mono ?_
  rintro e w2 ⟨rfl, hb⟩
  replace h := Below.step h hb
  replace hx0 := hx0.kept hb
  replace hx1 := hx1.kept hb
  replace hxr := hxr.kept hb
  clear hb ahx0 bhx0 lhx0 ahx1 bhx1 lhx1 ahxr bhxr lhxr
  obtain ⟨ahx0, bhx0⟩ := hx0.two
  have lhx0 := hx0.lt
  obtain ⟨ahx1, bhx1⟩ := hx1.two
  have lhx1 := hx1.lt
  obtain ⟨ahxr, bhxr⟩ := hxr.two
  have lhxr := hxr.lt
  have f0 := hxr.free 0
  have f1 := hxr.free 1
  go_wp2_with fail
  refine bodyPost_ret (v := .tuple #[.agg #[.int .i64 (0), .int .i64 (0)], .bool false]) (by simp [results, Tryd.results9, go_sem, ahxr, bhxr]) rfl ⟨rfl, ?_⟩
  exact (h.setCell (by first | (simp; done) | (simp; omega)) _).setCell (by first | (simp; done) | (simp; omega)) _

theorem productI_no (p0 q0 p1 q1 : Int) (w : World) (hL : Lim w) (g : ¬ (FrG p0 q0 ∧ FrG p1 q1)) : Calls Tryd.prog 9 #[.agg #[.int .i64 p0, .int .i64 q0], .agg #[.int .i64 p1, .int .i64 q1]] w (GivesFB w 0 0 false) := by
  by_cases g0 : FrG p0 q0
  · exact productI_no1 p0 q0 p1 q1 w hL g0 (fun g1 => g ⟨g0, g1⟩)
  · exact productI_no0 p0 q0 p1 q1 w hL g0

set_option maxHeartbeats 1000000 in
theorem frDiv_any (p0 q0 p1 q1 : Int) (w : World) (g0 : FrG p0 q0) (g1 : FrG p1 q1) (hnz : p1 ≠ 0) :
    Calls Tryd.prog 28 #[.agg #[.int .i64 p0, .int .i64 q0], .agg #[.int .i64 p1, .int .i64 q1]] w (GivesFB w (lowRP (p0 * q1) (q0 * p1)) (lowRQ (p0 * q1) (q0 * p1)) (lowB (p0 * q1) (q0 * p1))) := by
  obtain ⟨a1, a2, a3, a4, -⟩ := g0
  obtain ⟨b1, b2, b3, b4, -⟩ := g1
  have m1 := fr_mul_1e18 (a := p0) (b := q1) (by omega) (by omega) (by omega) (by omega)
  have m2 := fr_mul_1e18 (a := p1) (b := q0) (by omega) (by omega) (by omega) (by omega)
  have m3 := fr_mul_1e18 (a := q0) (b := q1) (by omega) (by omega) (by omega) (by omega)
  have m4 := fr_mul_1e18 (a := p0) (b := p1) (by omega) (by omega) (by omega) (by omega)
  have m5 := fr_mul_1e18 (a := q0) (b := p1) (by omega) (by omega) (by omega) (by omega)
  obtain ⟨m1a, m1b⟩ := m1
  obtain ⟨m2a, m2b⟩ := m2
  obtain ⟨m3a, m3b⟩ := m3
  obtain ⟨m4a, m4b⟩ := m4
  obtain ⟨m5a, m5b⟩ := m5
  obtain ⟨P, hP⟩ : ∃ P, P = lowRP (p0 * q1) (q0 * p1) := ⟨_, rfl⟩
  obtain ⟨Q, hQ⟩ : ∃ Q, Q = lowRQ (p0 * q1) (q0 * p1) := ⟨_, rfl⟩
  obtain ⟨B, hB⟩ : ∃ B, B = lowB (p0 * q1) (q0 * p1) := ⟨_, rfl⟩
  have c1 := fun (W : World) => frMake_any (p0 * q1) (q0 * p1) W (by omega) (by omega) (by omega) (by omega)
  rw [← hP, ← hQ, ← hB] at c1
  rw [← hP, ← hQ, ← hB]
  replace c1 := Lib.hid c1
  clear hP hQ hB
  have h := Below.refl w.heap.size w
  have hA := below_alloc1 w (.cells #[.int .i64 p0, .int .i64 q0] 24)
  replace h := Below.step h hA
  have hx0 := Box.new w 24 #[.int .i64 p0, .int .i64 q0]
  clear hA
  have hA := below_alloc1 (w.alloc (.cells #[.int .i64 p0, .int .i64 q0] 24)) (.cells #[.int .i64 p1, .int .i64 q1] 24)
  replace h := Below.step h hA
  replace hx0 := hx0.kept hA
  have hx1 := Box.new (w.alloc (.cells #[.int .i64 p0, .int .i64 q0] 24)) 24 #[.int .i64 p1, .int .i64 q1]
  rw [show (w.alloc (.cells #[.int .i64 p0, .int .i64 q0] 24)).heap.size = w.heap.size + 1 from by simp] at hx1
  clear hA
  have hA := below_alloc1 ((w.alloc (.cells #[.int .i64 p0, .int .i64 q0] 24)).alloc (.cells #[.int .i64 p1, .int .i64 q1] 24)) (.cells #[.int .i64 0, .int .i64 0] 24)
  replace h := Below.step h hA
  replace hx0 := hx0.kept hA
  replace hx1 := hx1.kept hA
  have hxr := Box.new ((w.alloc (.cells #[.int .i64 p0, .int .i64 q0] 24)).alloc (.cells #[.int .i64 p1, .int .i64 q1] 24)) 24 #[.int .i64 0, .int .i64 0]
  rw [show ((w.alloc (.cells #[.int .i64 p0, .int .i64 q0] 24)).alloc (.cells #[.int .i64 p1, .int .i64 q1] 24)).heap.size = w.heap.size + 1 + 1 from by simp] at hxr
  clear hA
  have ez : (p1 == 0) = false := beq_eq_false_iff_ne.2 hnz
  go_enter Tryd.func28, Tryd.ntmps28
  go_wp2_with fail
  refine (c1.out _).mono ?_
  rintro e w1 ⟨rfl, hb⟩
  replace h := Below.step h hb
  replace hx0 := hx0.kept hb
  replace hx1 := hx1.kept hb
  replace hxr := hxr.kept hb
  clear hb
  obtain ⟨ahx0, bhx0⟩ := hx0.two
  have lhx0 := hx0.lt
  obtain ⟨ahx1, bhx1⟩ := hx1.two
  have lhx1 := hx1.lt
  obtain ⟨ahxr, bhxr⟩ := hxr.two
  have lhxr := hxr.lt
  have f0 := hxr.free 0
  have f1 := hxr.free 1
  go_wp2_with fail
  refine bodyPost_ret (v := .tuple #[.agg #[.int .i64 (P), .int .i64 (Q)], .bool B]) (by simp [results, Tryd.results28, go_sem, ahxr, bhxr]) rfl ⟨rfl, ?_⟩
  exact (h.setCell (by first | (simp; done) | (simp; omega)) _).setCell (by first | (simp; done) | (simp; omega)) _

set_option maxHeartbeats 1000000 in
theorem frDiv_zero (p0 q0 q1 : Int) (w : World) : Calls Tryd.prog 28 #[.agg #[.int .i64 p0, .int .i64 q0], .agg #[.int .i64 0, .int .i64 q1]] w (GivesFB w 0 0 false) := by
  have h := Below.refl w.heap.size w
  have hA := below_alloc1 w (.cells #[.int .i64 p0, .int .i64 q0] 24)
  replace h := Below.step h hA
  have hx0 := Box.new w 24 #[.int .i64 p0, .int .i64 q0]
  clear hA
  have hA := below_alloc1 (w.alloc (.cells #[.int .i64 p0, .int .i64 q0] 24)) (.cells #[.int .i64 0, .int .i64 q1] 24)
  replace h := Below.step h hA
  replace hx0 := hx0.kept hA
  have hx1 := Box.new (w.alloc (.cells #[.int .i64 p0, .int .i64 q0] 24)) 24 #[.int .i64 0, .int .i64 q1]
  rw [show (w.alloc (.cells #[.int .i64 p0, .int .i64 q0] 24)).heap.size = w.heap.size + 1 from by simp] at hx1
  clear hA
  have hA := below_alloc1 ((w.alloc (.cells #[.int .i64 p0, .int .i64 q0] 24)).alloc (.cells #[.int .i64 0, .int .i64 q1] 24)) (.cells #[.int .i64 0, .int .i64 0] 24)
  replace h := Below.step h hA
  replace hx0 := hx0.kept hA
  replace hx1 := hx1.kept hA
  have hxr := Box.new ((w.alloc (.cells #[.int .i64 p0, .int .i64 q0] 24)).alloc (.cells #[.int .i64 0, .int .i64 q1] 24)) 24 #[.int .i64 0, .int .i64 0]
  rw [show ((w.alloc (.cells #[.int .i64 p0, .int .i64 q0] 24)).alloc (.cells #[.int .i64 0, .int .i64 q1] 24)).heap.size = w.heap.size + 1 + 1 from by simp] at hxr
  clear hA
  go_enter Tryd.func28, Tryd.ntmps28
  go_wp2_with fail
  refine bodyPost_ret (v := .tuple #[.agg #[.int .i64 (0), .int .i64 (0)], .bool false]) (by simp [results, Tryd.results28, go_sem]) rfl ⟨rfl, ?_⟩
  first | exact h | exact (h.setCell (by first | (simp; done) | (simp; omega)) _).setCell (by first | (simp; done) | (simp; omega)) _

set_option maxHeartbeats 1000000 in
theorem quotientS_yes (p0 q0 p1 q1 : Int) (w : World) (g0 : FrG p0 q0) (g1 : FrG p1 q1) (hnz : p1 ≠ 0) :
    Calls Tryd.prog 12 #[.agg #[.int .i64 p0, .int .i64 q0], .agg #[.int .i64 p1, .int .i64 q1]] w (GivesFB w (lowRP (p0 * q1) (q0 * p1)) (lowRQ (p0 * q1) (q0 * p1)) (lowB (p0 * q1) (q0 * p1))) := by
  obtain ⟨P, hP⟩ : ∃ P, P = lowRP (p0 * q1) (q0 * p1) := ⟨_, rfl⟩
  obtain ⟨Q, hQ⟩ : ∃ Q, Q = lowRQ (p0 * q1) (q0 * p1) := ⟨_, rfl⟩
  obtain ⟨B, hB⟩ : ∃ B, B = lowB (p0 * q1) (q0 * p1) := ⟨_, rfl⟩
  have c1 := fun (W : World) => frDiv_any p0 q0 p1 q1 W g0 g1 hnz
  rw [← hP, ← hQ, ← hB] at c1
  rw [← hP, ← hQ, ← hB]
  replace c1 := Lib.hid c1
  clear hP hQ hB
  have h := Below.refl w.heap.size w
  have hA := below_alloc1 w (.cells #[.int .i64 p0, .int .i64 q0] 24)
  replace h := Below.step h hA
  have hx0 := Box.new w 24 #[.int .i64 p0, .int .i64 q0]
  clear hA
  have hA := below_alloc1 (w.alloc (.cells #[.int .i64 p0, .int .i64 q0] 24)) (.cells #[.int .i64 p1, .int .i64 q1] 24)
  replace h := Below.step h hA
  replace hx0 := hx0.kept hA
  have hx1 := Box.new (w.alloc (.cells #[.int .i64 p0, .int .i64 q0] 24)) 24 #[.int .i64 p1, .int .i64 q1]
  rw [show (w.alloc (.cells #[.int .i64 p0, .int .i64 q0] 24)).heap.size = w.heap.size + 1 from by simp] at hx1
  clear hA
  have hA := below_alloc1 ((w.alloc (.cells #[.int .i64 p0, .int .i64 q0] 24)).alloc (.cells #[.int .i64 p1, .int .i64 q1] 24)) (.cells #[.int .i64 0, .int .i64 0] 24)
  replace h := Below.step h hA
  replace hx0 := hx0.kept hA
  replace hx1 := hx1.kept hA
  have hxr := Box.new ((w.alloc (.cells #[.int .i64 p0, .int .i64 q0] 24)).alloc (.cells #[.int .i64 p1, .int .i64 q1] 24)) 24 #[.int .i64 0, .int .i64 0]
  rw [show ((w.alloc (.cells #[.int .i64 p0, .int .i64 q0] 24)).alloc (.cells #[.int .i64 p1, .int .i64 q1] 24)).heap.size = w.heap.size + 1 + 1 from by simp] at hxr
  clear hA
  go_enter Tryd.func12, Tryd.ntmps12
  go_wp2_with fail
  refine (frTwo_yes p0 q0 p1 q1 _ g0 g1).mono ?_
  rintro e w1 ⟨rfl, hb⟩
  replace h := Below.step h hb
  replace hx0 := hx0.kept hb
  replace hx1 := hx1.kept hb
  replace hxr := hxr.kept hb
  clear hb
  obtain ⟨ahx0, bhx0⟩ := hx0.two
  have lhx0 := hx0.lt
  obtain ⟨ahx1, bhx1⟩ := hx1.two
  have lhx1 := hx1.lt
  obtain ⟨ahxr, bhxr⟩ := hxr.two
  have lhxr := hxr.lt
  go_wp2_with fail
  refine (c1.out _).mono ?_
  rintro e w2 ⟨rfl, hb⟩
  replace h := Below.step h hb
  replace hx0 := hx0.kept hb
  replace hx1 := hx1.kept hb
  replace hxr := hxr.kept hb
  clear hb ahx0 bhx0 lhx0 ahx1 bhx1 lhx1 ahxr bhxr lhxr
  obtain ⟨ahx0, bhx0⟩ := hx0.two
  have lhx0 := hx0.lt
  obtain ⟨ahx1, bhx1⟩ := hx1.two
  have lhx1 := hx1.lt
  obtain ⟨ahxr, bhxr⟩ := hxr.two
  have lhxr := hxr.lt
  have f0 := hxr.free 0
  have f1 := hxr.free 1
  go_wp2_with fail
  refine bodyPost_ret (v := .tuple #[.agg #[.int .i64 (P), .int .i64 (Q)], .bool B]) (by simp [results, Tryd.results12, go_sem, ahxr, bhxr]) rfl ⟨rfl, ?_⟩
  exact (h.setCell (by first | (simp; done) | (simp; omega)) _).setCell (by first | (simp; done) | (simp; omega)) _

set_option maxHeartbeats 1000000 in
theorem quotientS_zero (p0 q0 q1 : Int) (w : World) (g0 : FrG p0 q0) (g1 : FrG 0 q1) : Calls Tryd.prog 12 #[.agg #[.int .i64 p0, .int .i64 q0], .agg #[.int .i64 0, .int .i64 q1]] w (GivesFB w 0 0 false) := by
  have h := Below.refl w.heap.size w
  have hA := below_alloc1 w (.cells #[.int .i64 p0, .int .i64 q0] 24)
  replace h := Below.step h hA
  have hx0 := Box.new w 24 #[.int .i64 p0, .int .i64 q0]
  clear hA
  have hA := below_alloc1 (w.alloc (.cells #[.int .i64 p0, .int .i64 q0] 24)) (.cells #[.int .i64 0, .int .i64 q1] 24)
  replace h := Below.step h hA
  replace hx0 := hx0.kept hA
  have hx1 := Box.new (w.alloc (.cells #[.int .i64 p0, .int .i64 q0] 24)) 24 #[.int .i64 0, .int .i64 q1]
  rw [show (w.alloc (.cells #[.int .i64 p0, .int .i64 q0] 24)).heap.size = w.heap.size + 1 from by simp] at hx1
  clear hA
  have hA := below_alloc1 ((w.alloc (.cells #[.int .i64 p0, .int .i64 q0] 24)).alloc (.cells #[.int .i64 0, .int .i64 q1] 24)) (.cells #[.int .i64 0, .int .i64 0] 24)
  replace h := Below.step h hA
  replace hx0 := hx0.kept hA
  replace hx1 := hx1.kept hA
  have hxr := Box.new ((w.alloc (.cells #[.int .i64 p0, .int .i64 q0] 24)).alloc (.cells #[.int .i64 0, .int .i64 q1] 24)) 24 #[.int .i64 0, .int .i64 0]
  rw [show ((w.alloc (.cells #[.int .i64 p0, .int .i64 q0] 24)).alloc (.cells #[.int .i64 0, .int .i64 q1] 24)).heap.size = w.heap.size + 1 + 1 from by simp] at hxr
  clear hA
  go_enter Tryd.func12, Tryd.ntmps12
  go_wp2_with fail
  refine (frTwo_yes p0 q0 0 q1 _ g0 g1).mono ?_
  rintro e w1 ⟨rfl, hb⟩
  replace h := Below.step h hb
  replace hx0 := hx0.kept hb
  replace hx1 := hx1.kept hb
  replace hxr := hxr.kept hb
  clear hb
  obtain ⟨ahx0, bhx0⟩ := hx0.two
  have lhx0 := hx0.lt
  obtain ⟨ahx1, bhx1⟩ := hx1.two
  have lhx1 := hx1.lt
  obtain ⟨ahxr, bhxr⟩ := hxr.two
  have lhxr := hxr.lt
  go_wp2_with fail
  refine (frDiv_zero p0 q0 q1 _).mono ?_
  rintro e w2 ⟨rfl, hb⟩
  replace h := Below.step h hb
  replace hx0 := hx0.kept hb
  replace hx1 := hx1.kept hb
  replace hxr := hxr.kept hb
  clear hb ahx0 bhx0 lhx0 ahx1 bhx1 lhx1 ahxr bhxr lhxr
  obtain ⟨ahx0, bhx0⟩ := hx0.two
  have lhx0 := hx0.lt
  obtain ⟨ahx1, bhx1⟩ := hx1.two
  have lhx1 := hx1.lt
  obtain ⟨ahxr, bhxr⟩ := hxr.two
  have lhxr := hxr.lt
  have f0 := hxr.free 0
  have f1 := hxr.free 1
  go_wp2_with fail
  refine bodyPost_ret (v := .tuple #[.agg #[.int .i64 (0), .int .i64 (0)], .bool false]) (by simp [results, Tryd.results12, go_sem, ahxr, bhxr]) rfl ⟨rfl, ?_⟩
  exact (h.setCell (by first | (simp; done) | (simp; omega)) _).setCell (by first | (simp; done) | (simp; omega)) _

set_option maxHeartbeats 1000000 in
theorem quotientS_no (p0 q0 p1 q1 : Int) (w : World) (g : ¬ (FrG p0 q0 ∧ FrG p1 q1)) : Calls Tryd.prog 12 #[.agg #[.int .i64 p0, .int .i64 q0], .agg #[.int .i64 p1, .int .i64 q1]] w (GivesFB w 0 0 false) := by
  have h := Below.refl w.heap.size w
  have hA := below_alloc1 w (.cells #[.int .i64 p0, .int .i64 q0] 24)
  replace h := Below.step h hA
  have hx0 := Box.new w 24 #[.int .i64 p0, .int .i64 q0]
  clear hA
  have hA := below_alloc1 (w.alloc (.cells #[.int .i64 p0, .int .i64 q0] 24)) (.cells #[.int .i64 p1, .int .i64 q1] 24)
  replace h := Below.step h hA
  replace hx0 := hx0.kept hA
  have hx1 := Box.new (w.alloc (.cells #[.int .i64 p0, .int .i64 q0] 24)) 24 #[.int .i64 p1, .int .i64 q1]
  rw [show (w.alloc (.cells #[.int .i64 p0, .int .i64 q0] 24)).heap.size = w.heap.size + 1 from by simp] at hx1
  clear hA
  have hA := below_alloc1 ((w.alloc (.cells #[.int .i64 p0, .int .i64 q0] 24)).alloc (.cells #[.int .i64 p1, .int .i64 q1] 24)) (.cells #[.int .i64 0, .int .i64 0] 24)
  replace h := Below.step h hA
  replace hx0 := hx0.kept hA
  replace hx1 := hx1.kept hA
  have hxr := Box.new ((w.alloc (.cells #[.int .i64 p0, .int .i64 q0] 24)).alloc (.cells #[.int .i64 p1, .int .i64 q1] 24)) 24 #[.int .i64 0, .int .i64 0]
  rw [show ((w.alloc (.cells #[.int .i64 p0, .int .i64 q0] 24)).alloc (.cells #[.int .i64 p1, .int .i64 q1] 24)).heap.size = w.heap.size + 1 + 1 from by simp] at hxr
  clear hA
  go_enter Tryd.func12, Tryd.ntmps12
  go_wp2_with fail
  refine (frTwo_no p0 q0 p1 q1 _ g).mono ?_
  rintro e w1 ⟨rfl, hb⟩
  replace h := Below.step h hb
  replace hx0 := hx0.kept hb
  replace hx1 := hx1.kept hb
  replace hxr := hxr.kept hb
  clear hb
  obtain ⟨ahx0, bhx0⟩ := hx0.two
  have lhx0 := hx0.lt
  obtain ⟨ahx1, bhx1⟩ := hx1.two
  have lhx1 := hx1.lt
  obtain ⟨ahxr, bhxr⟩ := hxr.two
  have lhxr := hxr.lt
  have f0 := hxr.free 0
  have f1 := hxr.free 1
  go_wp2_with fail
  refine bodyPost_ret (v := .tuple #[.agg #[.int .i64 (0), .int .i64 (0)], .bool false]) (by simp [results, Tryd.results12, go_sem, ahxr, bhxr]) rfl ⟨rfl, ?_⟩
  exact (h.setCell (by first | (simp; done) | (simp; omega)) _).setCell (by first | (simp; done) | (simp; omega)) _

set_option maxHeartbeats 1000000 in
theorem quotientI_yes (p0 q0 p1 q1 : Int) (w : World) (hL : Lim w) (g0 : FrG p0 q0) (g1 : FrG p1 q1) (hnz : p1 ≠ 0) :
    Calls Tryd.prog 11 #[.agg #[.int .i64 p0, .int .i64 q0], .agg #[.int .i64 p1, .int .i64 q1]] w (GivesFB w (lowRP (p0 * q1) (q0 * p1)) (lowRQ (p0 * q1) (q0 * p1)) (lowB (p0 * q1) (q0 * p1))) := by
  have g0' := g0
  obtain ⟨a1, a2, a3, a4, -⟩ := g0'
  have g1' := g1
  obtain ⟨b1, b2, b3, b4, -⟩ := g1'
  have m1 := fr_mul_1e18 (a := p0) (b := q1) (by omega) (by omega) (by omega) (by omega)
  have m2 := fr_mul_1e18 (a := p1) (b := q0) (by omega) (by omega) (by omega) (by omega)
  have m3 := fr_mul_1e18 (a := q0) (b := q1) (by omega) (by omega) (by omega) (by omega)
  have m4 := fr_mul_1e18 (a := p0) (b := p1) (by omega) (by omega) (by omega) (by omega)
  have m5 := fr_mul_1e18 (a := q0) (b := p1) (by omega) (by omega) (by omega) (by omega)
  obtain ⟨m1a, m1b⟩ := m1
  obtain ⟨m2a, m2b⟩ := m2
  obtain ⟨m3a, m3b⟩ := m3
  obtain ⟨m4a, m4b⟩ := m4
  obtain ⟨m5a, m5b⟩ := m5
  have hne : q0 * p1 ≠ 0 := Int.mul_ne_zero (by omega) hnz
  obtain ⟨P, hP⟩ : ∃ P, P = lowRP (p0 * q1) (q0 * p1) := ⟨_, rfl⟩
  obtain ⟨Q, hQ⟩ : ∃ Q, Q = lowRQ (p0 * q1) (q0 * p1) := ⟨_, rfl⟩
  obtain ⟨B, hB⟩ : ∃ B, B = lowB (p0 * q1) (q0 * p1) := ⟨_, rfl⟩
  have c1 := fun (W : World) (hL : Lim W) => inLowest_any (p0 * q1) (q0 * p1) W hL (by omega) (by omega) (by omega) (by omega) hne
  rw [← hP, ← hQ, ← hB] at c1
  rw [← hP, ← hQ, ← hB]
  replace c1 := Lib.hid c1
  clear hP hQ hB
  clear hne
  have h := Below.refl w.heap.size w
  have hA := below_alloc1 w (.cells #[.int .i64 p0, .int .i64 q0] 24)
  replace h := Below.step h hA
  have hx0 := Box.new w 24 #[.int .i64 p0, .int .i64 q0]
  clear hA
  have hA := below_alloc1 (w.alloc (.cells #[.int .i64 p0, .int .i64 q0] 24)) (.cells #[.int .i64 p1, .int .i64 q1] 24)
  replace h := Below.step h hA
  replace hx0 := hx0.kept hA
  have hx1 := Box.new (w.alloc (.cells #[.int .i64 p0, .int .i64 q0] 24)) 24 #[.int .i64 p1, .int .i64 q1]
  rw [show (w.alloc (.cells #[.int .i64 p0, .int .i64 q0] 24)).heap.size = w.heap.size + 1 from by simp] at hx1
  clear hA
  have hA := below_alloc1 ((w.alloc (.cells #[.int .i64 p0, .int .i64 q0] 24)).alloc (.cells #[.int .i64 p1, .int .i64 q1] 24)) (.cells #[.int .i64 0, .int .i64 0] 24)
  replace h := Below.step h hA
  replace hx0 := hx0.kept hA
  replace hx1 := hx1.kept hA
  have hxr := Box.new ((w.alloc (.cells #[.int .i64 p0, .int .i64 q0] 24)).alloc (.cells #[.int .i64 p1, .int .i64 q1] 24)) 24 #[.int .i64 0, .int .i64 0]
  rw [show ((w.alloc (.cells #[.int .i64 p0, .int .i64 q0] 24)).alloc (.cells #[.int .i64 p1, .int .i64 q1] 24)).heap.size = w.heap.size + 1 + 1 from by simp] at hxr
  clear hA
  have ez : (p1 == 0) = false := beq_eq_false_iff_ne.2 hnz
  go_enter Tryd.func11, Tryd.ntmps11
  go_wp2_with fail
  refine (isFractionI_yes p0 q0 _ (by exact hL.kept h) g0).mono ?_
  rintro e w1 ⟨rfl, hb⟩
  replace h := Below.step h hb
  replace hx0 := hx0.kept hb
  replace hx1 := hx1.kept hb
  replace hxr := hxr.kept hb
  clear hb
  obtain ⟨ahx0, bhx0⟩ := hx0.two
  have lhx0 := hx0.lt
  obtain ⟨ahx1, bhx1⟩ := hx1.two
  have lhx1 := hx1.lt
  obtain ⟨ahxr, bhxr⟩ := hxr.two
  have lhxr := hxr.lt
  go_wp2_with fail
  refine (isFractionI_yes p1 q1 _ (by exact hL.kept h) g1).mono ?_
  rintro e w2 ⟨rfl, hb⟩
  replace h := Below.step h hb
  replace hx0 := hx0.kept hb
  replace hx1 := hx1.kept hb
  replace hxr := hxr.kept hb
  clear hb ahx0 bhx0 lhx0 ahx1 bhx1 lhx1 ahxr bhxr lhxr
  obtain ⟨ahx0, bhx0⟩ := hx0.two
  have lhx0 := hx0.lt
  obtain ⟨ahx1, bhx1⟩ := hx1.two
  have lhx1 := hx1.lt
  obtain ⟨ahxr, bhxr⟩ := hxr.two
  have lhxr := hxr.lt
  go_wp2_with fail
  refine (c1.out _ (by exact hL.kept h)).mono ?_
  rintro e w3 ⟨rfl, hb⟩
  replace h := Below.step h hb
  replace hx0 := hx0.kept hb
  replace hx1 := hx1.kept hb
  replace hxr := hxr.kept hb
  clear hb ahx0 bhx0 lhx0 ahx1 bhx1 lhx1 ahxr bhxr lhxr
  obtain ⟨ahx0, bhx0⟩ := hx0.two
  have lhx0 := hx0.lt
  obtain ⟨ahx1, bhx1⟩ := hx1.two
  have lhx1 := hx1.lt
  obtain ⟨ahxr, bhxr⟩ := hxr.two
  have lhxr := hxr.lt
  have f0 := hxr.free 0
  have f1 := hxr.free 1
  go_wp2_with fail
  refine bodyPost_ret (v := .tuple #[.agg #[.int .i64 (P), .int .i64 (Q)], .bool B]) (by simp [results, Tryd.results11, go_sem, ahxr, bhxr]) rfl ⟨rfl, ?_⟩
  exact (h.setCell (by first | (simp; done) | (simp; omega)) _).setCell (by first | (simp; done) | (simp; omega)) _

set_option maxHeartbeats 1000000 in
theorem quotientI_no0 (p0 q0 p1 q1 : Int) (w : World) (hL : Lim w) (g0 : ¬ FrG p0 q0) : Calls Tryd.prog 11 #[.agg #[.int .i64 p0, .int .i64 q0], .agg #[.int .i64 p1, .int .i64 q1]] w (GivesFB w 0 0 false) := by
  have h := Below.refl w.heap.size w
  have hA := below_alloc1 w (.cells #[.int .i64 p0, .int .i64 q0] 24)
  replace h := Below.step h hA
  have hx0 := Box.new w 24 #[.int .i64 p0, .int .i64 q0]
  clear hA
  have hA := below_alloc1 (w.alloc (.cells #[.int .i64 p0, .int .i64 q0] 24)) (.cells #[.int .i64 p1, .int .i64 q1] 24)
  replace h := Below.step h hA
  replace hx0 := hx0.kept hA
  have hx1 := Box.new (w.alloc (.cells #[.int .i64 p0, .int .i64 q0] 24)) 24 #[.int .i64 p1, .int .i64 q1]
  rw [show (w.alloc (.cells #[.int .i64 p0, .int .i64 q0] 24)).heap.size = w.heap.size + 1 from by simp] at hx1
  clear hA
  have hA := below_alloc1 ((w.alloc (.cells #[.int .i64 p0, .int .i64 q0] 24)).alloc (.cells #[.int .i64 p1, .int .i64 q1] 24)) (.cells #[.int .i64 0, .int .i64 0] 24)
  replace h := Below.step h hA
  replace hx0 := hx0.kept hA
  replace hx1 := hx1.kept hA
  have hxr := Box.new ((w.alloc (.cells #[.int .i64 p0, .int .i64 q0] 24)).alloc (.cells #[.int .i64 p1, .int .i64 q1] 24)) 24 #[.int .i64 0, .int .i64 0]
  rw [show ((w.alloc (.cells #[.int .i64 p0, .int .i64 q0] 24)).alloc (.cells #[.int .i64 p1, .int .i64 q1] 24)).heap.size = w.heap.size + 1 + 1 from by simp] at hxr
  clear hA
  go_enter Tryd.func11, Tryd.ntmps11
  go_wp2_with fail
  refine (isFractionI_no p0 q0 _ (by exact hL.kept h) g0).mono ?_
  rintro e w1 ⟨rfl, hb⟩
  replace h := Below.step h hb
  replace hx0 := hx0.kept hb
  replace hx1 := hx1.kept hb
  replace hxr := hxr.kept hb
  clear hb
  obtain ⟨ahx0, bhx0⟩ := hx0.two
  have lhx0 := hx0.lt
  obtain ⟨ahx1, bhx1⟩ := hx1.two
  have lhx1 := hx1.lt
  obtain ⟨ahxr, bhxr⟩ := hxr.two
  have lhxr := hxr.lt
  have f0 := hxr.free 0
  have f1 := hxr.free 1
  go_wp2_with fail
  refine bodyPost_ret (v := .tuple #[.agg #[.int .i64 (0), .int .i64 (0)], .bool false]) (by simp [results, Tryd.results11, go_sem, ahxr, bhxr]) rfl ⟨rfl, ?_⟩
  exact (h.setCell (by first | (simp; done) | (simp; omega)) _).setCell (by first | (simp; done) | (simp; omega)) _

set_option maxHeartbeats 1000000 in
theorem quotientI_no1 (p0 q0 p1 q1 : Int) (w : World) (hL : Lim w) (g0 : FrG p0 q0) (g1 : ¬ FrG p1 q1) : Calls Tryd.prog 11 #[.agg #[.int .i64 p0, .int .i64 q0], .agg #[.int .i64 p1, .int .i64 q1]] w (GivesFB w 0 0 false) := by
  have h := Below.refl w.heap.size w
  have hA := below_alloc1 w (.cells #[.int .i64 p0, .int .i64 q0] 24)
  replace h := Below.step h hA
  have hx0 := Box.new w 24 #[.int .i64 p0, .int .i64 q0]
  clear hA
  have hA := below_alloc1 (w.alloc (.cells #[.int .i64 p0, .int .i64 q0] 24)) (.cells #[.int .i64 p1, .int .i64 q1] 24)
  replace h := Below.step h hA
  replace hx0 := hx0.kept hA
  have hx1 := Box.new (w.alloc (.cells #[.int .i64 p0, .int .i64 q0] 24)) 24 #[.int .i64 p1, .int .i64 q1]
  rw [show (w.alloc (.cells #[.int .i64 p0, .int .i64 q0] 24)).heap.size = w.heap.size + 1 from by simp] at hx1
  clear hA
  have hA := below_alloc1 ((w.alloc (.cells #[.int .i64 p0, .int .i64 q0] 24)).alloc (.cells #[.int .i64 p1, .int .i64 q1] 24)) (.cells #[.int .i64 0, .int .i64 0] 24)
  replace h := Below.step h hA
  replace hx0 := hx0.kept hA
  replace hx1 := hx1.kept hA
  have hxr := Box.new ((w.alloc (.cells #[.int .i64 p0, .int .i64 q0] 24)).alloc (.cells #[.int .i64 p1, .int .i64 q1] 24)) 24 #[.int .i64 0, .int .i64 0]
  rw [show ((w.alloc (.cells #[.int .i64 p0, .int .i64 q0] 24)).alloc (.cells #[.int .i64 p1, .int .i64 q1] 24)).heap.size = w.heap.size + 1 + 1 from by simp] at hxr
  clear hA
  go_enter Tryd.func11, Tryd.ntmps11
  go_wp2_with fail
  refine (isFractionI_yes p0 q0 _ (by exact hL.kept h) g0).mono ?_
  rintro e w1 ⟨rfl, hb⟩
  replace h := Below.step h hb
  replace hx0 := hx0.kept hb
  replace hx1 := hx1.kept hb
  replace hxr := hxr.kept hb
  clear hb
  obtain ⟨ahx0, bhx0⟩ := hx0.two
  have lhx0 := hx0.lt
  obtain ⟨ahx1, bhx1⟩ := hx1.two
  have lhx1 := hx1.lt
  obtain ⟨ahxr, bhxr⟩ := hxr.two
  have lhxr := hxr.lt
  go_wp2_with fail
  refine (isFractionI_no p1 q1 _ (by exact hL.kept h) g1).mono ?_
  rintro e w2 ⟨rfl, hb⟩
  replace h := Below.step h hb
  replace hx0 := hx0.kept hb
  replace hx1 := hx1.kept hb
  replace hxr := hxr.kept hb
  clear hb ahx0 bhx0 lhx0 ahx1 bhx1 lhx1 ahxr bhxr lhxr
  obtain ⟨ahx0, bhx0⟩ := hx0.two
  have lhx0 := hx0.lt
  obtain ⟨ahx1, bhx1⟩ := hx1.two
  have lhx1 := hx1.lt
  obtain ⟨ahxr, bhxr⟩ := hxr.two
  have lhxr := hxr.lt
  have f0 := hxr.free 0
  have f1 := hxr.free 1
  go_wp2_with fail
  refine bodyPost_ret (v := .tuple #[.agg #[.int .i64 (0), .int .i64 (0)], .bool false]) (by simp [results, Tryd.results11, go_sem, ahxr, bhxr]) rfl ⟨rfl, ?_⟩
  exact (h.setCell (by first | (simp; done) | (simp; omega)) _).setCell (by first | (simp; done) | (simp; omega)) _

theorem quotientI_no (p0 q0 p1 q1 : Int) (w : World) (hL : Lim w) (g : ¬ (FrG p0 q0 ∧ FrG p1 q1)) : Calls Tryd.prog 11 #[.agg #[.int .i64 p0, .int .i64 q0], .agg #[.int .i64 p1, .int .i64 q1]] w (GivesFB w 0 0 false) := by
  by_cases g0 : FrG p0 q0
  · exact quotientI_no1 p0 q0 p1 q1 w hL g0 (fun g1 => g ⟨g0, g1⟩)
  · exact quotientI_no0 p0 q0 p1 q1 w hL g0

set_option maxHeartbeats 1000000 in
theorem quotientI_zero (p0 q0 q1 : Int) (w : World) (hL : Lim w) (g0 : FrG p0 q0) (g1 : FrG 0 q1) : Calls Tryd.prog 11 #[.agg #[.int .i64 p0, .int .i64 q0], .agg #[.int .i64 0, .int .i64 q1]] w (GivesFB w 0 0 false) := by
  have h := Below.refl w.heap.size w
  have hA := below_alloc1 w (.cells #[.int .i64 p0, .int .i64 q0] 24)
  replace h := Below.step h hA
  have hx0 := Box.new w 24 #[.int .i64 p0, .int .i64 q0]
  clear hA
  have hA := below_alloc1 (w.alloc (.cells #[.int .i64 p0, .int .i64 q0] 24)) (.cells #[.int .i64 0, .int .i64 q1] 24)
  replace h := Below.step h hA
  replace hx0 := hx0.kept hA
  have hx1 := Box.new (w.alloc (.cells #[.int .i64 p0, .int .i64 q0] 24)) 24 #[.int .i64 0, .int .i64 q1]
  rw [show (w.alloc (.cells #[.int .i64 p0, .int .i64 q0] 24)).heap.size = w.heap.size + 1 from by simp] at hx1
  clear hA
  have hA := below_alloc1 ((w.alloc (.cells #[.int .i64 p0, .int .i64 q0] 24)).alloc (.cells #[.int .i64 0, .int .i64 q1] 24)) (.cells #[.int .i64 0, .int .i64 0] 24)
  replace h := Below.step h hA
  replace hx0 := hx0.kept hA
  replace hx1 := hx1.kept hA
  have hxr := Box.new ((w.alloc (.cells #[.int .i64 p0, .int .i64 q0] 24)).alloc (.cells #[.int .i64 0, .int .i64 q1] 24)) 24 #[.int .i64 0, .int .i64 0]
  rw [show ((w.alloc (.cells #[.int .i64 p0, .int .i64 q0] 24)).alloc (.cells #[.int .i64 0, .int .i64 q1] 24)).heap.size = w.heap.size + 1 + 1 from by simp] at hxr
  clear hA
  go_enter Tryd.func11, Tryd.ntmps11
  go_wp2_with fail
  refine (isFractionI_yes p0 q0 _ (by exact hL.kept h) g0).mono ?_
  rintro e w1 ⟨rfl, hb⟩
  replace h := Below.step h hb
  replace hx0 := hx0.kept hb
  replace hx1 := hx1.kept hb
  replace hxr := hxr.kept hb
  clear hb
  obtain ⟨ahx0, bhx0⟩ := hx0.two
  have lhx0 := hx0.lt
  obtain ⟨ahx1, bhx1⟩ := hx1.two
  have lhx1 := hx1.lt
  obtain ⟨ahxr, bhxr⟩ := hxr.two
  have lhxr := hxr.lt
  go_wp2_with fail
  refine (isFractionI_yes 0 q1 _ (by exact hL.kept h) g1).mono ?_
  rintro e w2 ⟨rfl, hb⟩
  replace h := Below.step h hb
  replace hx0 := hx0.kept hb
  replace hx1 := hx1.kept hb
  replace hxr := hxr.kept hb
  clear hb ahx0 bhx0 lhx0 ahx1 bhx1 lhx1 ahxr bhxr lhxr
  obtain ⟨ahx0, bhx0⟩ := hx0.two
  have lhx0 := hx0.lt
  obtain ⟨ahx1, bhx1⟩ := hx1.two
  have lhx1 := hx1.lt
  obtain ⟨ahxr, bhxr⟩ := hxr.two
  have lhxr := hxr.lt
  have f0 := hxr.free 0
  have f1 := hxr.free 1
  go_wp2_with fail
  refine bodyPost_ret (v := .tuple #[.agg #[.int .i64 (0), .int .i64 (0)], .bool false]) (by simp [results, Tryd.results11, go_sem, ahxr, bhxr]) rfl ⟨rfl, ?_⟩
  exact (h.setCell (by first | (simp; done) | (simp; omega)) _).setCell (by first | (simp; done) | (simp; omega)) _

end Go.Proofs.YtchglkcfolannaaDoor
