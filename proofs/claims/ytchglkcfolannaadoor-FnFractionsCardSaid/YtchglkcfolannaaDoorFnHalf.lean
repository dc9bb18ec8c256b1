/- FractionOf, IsLess: the model's and the program's (cut out of XFrHalf by wip/gen/cuttpl.py). -/
import Derived.Test.YtchglkcfolannaaDoorFnOps
namespace Go.Proofs.YtchglkcfolannaaDoor
open Go.RowKit Go.Joins

theorem ret_int' {k : IntKind} {a b : Int} (h : a = b) : Ending.returned (.int k a) = .returned (.int k b) := by rw [h]

set_option maxHeartbeats 1000000 in
theorem fractionOfS_yes (z0 z1 : Int) (w : World) (h1 : -1000000000000000000 ≤ z0) (h2 : z0 ≤ 1000000000000000000) (h3 : -1000000000000000000 ≤ z1) (h4 : z1 ≤ 1000000000000000000) (hne : z1 ≠ 0) :
    Calls Tryd.prog 17 #[.int .i64 z0, .int .i64 z1] w (GivesFB w (lowRP z0 z1) (lowRQ z0 z1) (lowB z0 z1)) := by
  obtain ⟨P, hP⟩ : ∃ P, P = lowRP z0 z1 := ⟨_, rfl⟩
  obtain ⟨Q, hQ⟩ : ∃ Q, Q = lowRQ z0 z1 := ⟨_, rfl⟩
  obtain ⟨B, hB⟩ : ∃ B, B = lowB z0 z1 := ⟨_, rfl⟩
  have c1 := fun (W : World) => frMake_any z0 z1 W (by omega) (by omega) (by omega) (by omega)
  rw [← hP, ← hQ, ← hB] at c1
  rw [← hP, ← hQ, ← hB]
  replace c1 := Lib.hid c1
  clear hP hQ hB
  have ez : (z1 == 0) = false := beq_eq_false_iff_ne.2 hne
  clear hne
  have h := Below.refl w.heap.size w
  have hA := below_alloc1 w (.cells #[.int .i64 0, .int .i64 0] 24)
  replace h := Below.step h hA
  have hxr := Box.new w 24 #[.int .i64 0, .int .i64 0]
  clear hA
  go_enter Tryd.func17, Tryd.ntmps17
  go_wp2_with fail
  refine (l1In_yes _ _ _ _ (by omega) (by omega)).mono ?_
  rintro e w' ⟨rfl, rfl⟩
  go_wp2_with fail
  refine (l1In_yes _ _ _ _ (by omega) (by omega)).mono ?_
  rintro e w' ⟨rfl, rfl⟩
  go_wp2_with fail
  refine (c1.out _).mono ?_
  rintro e w1 ⟨rfl, hb⟩
  replace h := Below.step h hb
  replace hxr := hxr.kept hb
  clear hb
  obtain ⟨ahxr, bhxr⟩ := hxr.two
  have lhxr := hxr.lt
  have f0 := hxr.free 0
  have f1 := hxr.free 1
  go_wp2_with fail
  refine bodyPost_ret (v := .tuple #[.agg #[.int .i64 (P), .int .i64 (Q)], .bool B]) (by simp [results, Tryd.results17, go_sem, ahxr, bhxr]) rfl ⟨rfl, ?_⟩
  exact (h.setCell (by first | (simp; done) | (simp; omega)) _).setCell (by first | (simp; done) | (simp; omega)) _

set_option maxHeartbeats 1000000 in
theorem fractionOfS_no0 (z0 z1 : Int) (w : World) (hz : z0 < -1000000000000000000 ∨ 1000000000000000000 < z0) :
    Calls Tryd.prog 17 #[.int .i64 z0, .int .i64 z1] w (GivesFB w 0 0 false) := by
  have h := Below.refl w.heap.size w
  have hA := below_alloc1 w (.cells #[.int .i64 0, .int .i64 0] 24)
  replace h := Below.step h hA
  have hxr := Box.new w 24 #[.int .i64 0, .int .i64 0]
  clear hA
  go_enter Tryd.func17, Tryd.ntmps17
  go_wp2_with fail
  refine (l1In_no _ _ _ _ (by omega)).mono ?_
  rintro e w' ⟨rfl, rfl⟩
  go_wp2_with fail
  refine bodyPost_ret (v := .tuple #[.agg #[.int .i64 (0), .int .i64 (0)], .bool false]) (by simp [results, Tryd.results17, go_sem]) rfl ⟨rfl, ?_⟩
  first | exact h | exact (h.setCell (by first | (simp; done) | (simp; omega)) _).setCell (by first | (simp; done) | (simp; omega)) _

set_option maxHeartbeats 1000000 in
theorem fractionOfS_no1 (z0 z1 : Int) (w : World) (h1 : -1000000000000000000 ≤ z0) (h2 : z0 ≤ 1000000000000000000) (hz : z1 < -1000000000000000000 ∨ 1000000000000000000 < z1) :
    Calls Tryd.prog 17 #[.int .i64 z0, .int .i64 z1] w (GivesFB w 0 0 false) := by
  have h := Below.refl w.heap.size w
  have hA := below_alloc1 w (.cells #[.int .i64 0, .int .i64 0] 24)
  replace h := Below.step h hA
  have hxr := Box.new w 24 #[.int .i64 0, .int .i64 0]
  clear hA
  go_enter Tryd.func17, Tryd.ntmps17
  go_wp2_with fail
  refine (l1In_yes _ _ _ _ (by omega) (by omega)).mono ?_
  rintro e w' ⟨rfl, rfl⟩
  go_wp2_with fail
  refine (l1In_no _ _ _ _ (by omega)).mono ?_
  rintro e w' ⟨rfl, rfl⟩
  go_wp2_with fail
  refine bodyPost_ret (v := .tuple #[.agg #[.int .i64 (0), .int .i64 (0)], .bool false]) (by simp [results, Tryd.results17, go_sem]) rfl ⟨rfl, ?_⟩
  first | exact h | exact (h.setCell (by first | (simp; done) | (simp; omega)) _).setCell (by first | (simp; done) | (simp; omega)) _

set_option maxHeartbeats 1000000 in
theorem fractionOfS_zero (z0 : Int) (w : World) (h1 : -1000000000000000000 ≤ z0) (h2 : z0 ≤ 1000000000000000000) :
    Calls Tryd.prog 17 #[.int .i64 z0, .int .i64 0] w (GivesFB w 0 0 false) := by
  have h := Below.refl w.heap.size w
  have hA := below_alloc1 w (.cells #[.int .i64 0, .int .i64 0] 24)
  replace h := Below.step h hA
  have hxr := Box.new w 24 #[.int .i64 0, .int .i64 0]
  clear hA
  go_enter Tryd.func17, Tryd.ntmps17
  go_wp2_with fail
  refine (l1In_yes _ _ _ _ (by omega) (by omega)).mono ?_
  rintro e w' ⟨rfl, rfl⟩
  go_wp2_with fail
  refine (l1In_yes _ _ _ _ (by omega) (by omega)).mono ?_
  rintro e w' ⟨rfl, rfl⟩
  go_wp2_with fail
  refine bodyPost_ret (v := .tuple #[.agg #[.int .i64 (0), .int .i64 (0)], .bool false]) (by simp [results, Tryd.results17, go_sem]) rfl ⟨rfl, ?_⟩
  first | exact h | exact (h.setCell (by first | (simp; done) | (simp; omega)) _).setCell (by first | (simp; done) | (simp; omega)) _

set_option maxHeartbeats 1000000 in
theorem fractionOfI_yes (z0 z1 : Int) (w : World) (hL : Lim w) (h1 : -1000000000000000000 ≤ z0) (h2 : z0 ≤ 1000000000000000000) (h3 : -1000000000000000000 ≤ z1) (h4 : z1 ≤ 1000000000000000000) (hne : z1 ≠ 0) :
    Calls Tryd.prog 16 #[.int .i64 z0, .int .i64 z1] w (GivesFB w (lowRP z0 z1) (lowRQ z0 z1) (lowB z0 z1)) := by
  obtain ⟨P, hP⟩ : ∃ P, P = lowRP z0 z1 := ⟨_, rfl⟩
  obtain ⟨Q, hQ⟩ : ∃ Q, Q = lowRQ z0 z1 := ⟨_, rfl⟩
  obtain ⟨B, hB⟩ : ∃ B, B = lowB z0 z1 := ⟨_, rfl⟩
  have c1 := fun (W : World) (hL : Lim W) => inLowest_any z0 z1 W hL (by omega) (by omega) (by omega) (by omega) hne
  rw [← hP, ← hQ, ← hB] at c1
  rw [← hP, ← hQ, ← hB]
  replace c1 := Lib.hid c1
  clear hP hQ hB
  have ez : (z1 == 0) = false := beq_eq_false_iff_ne.2 hne
  clear hne
  have h := Below.refl w.heap.size w
  have hA := below_alloc1 w (.cells #[.int .i64 0, .int .i64 0] 24)
  replace h := Below.step h hA
  have hxr := Box.new w 24 #[.int .i64 0, .int .i64 0]
  clear hA
  obtain ⟨-, t1, -⟩ := hL.kept h
  go_enter Tryd.func16, Tryd.ntmps16
  go_wp2_with fail
  refine (isWithin1_yes _ _ (by exact t1) (by omega) (by omega)).mono ?_
  rintro e w' ⟨rfl, rfl⟩
  go_wp2_with fail
  refine (isWithin1_yes _ _ (by exact t1) (by omega) (by omega)).mono ?_
  rintro e w' ⟨rfl, rfl⟩
  go_wp2_with fail
  refine (c1.out _ (by exact hL.kept h)).mono ?_
  rintro e w1 ⟨rfl, hb⟩
  replace h := Below.step h hb
  replace hxr := hxr.kept hb
  clear hb
  obtain ⟨ahxr, bhxr⟩ := hxr.two
  have lhxr := hxr.lt
  have f0 := hxr.free 0
  have f1 := hxr.free 1
  go_wp2_with fail
  refine bodyPost_ret (v := .tuple #[.agg #[.int .i64 (P), .int .i64 (Q)], .bool B]) (by simp [results, Tryd.results16, go_sem, ahxr, bhxr]) rfl ⟨rfl, ?_⟩
  exact (h.setCell (by first | (simp; done) | (simp; omega)) _).setCell (by first | (simp; done) | (simp; omega)) _

set_option maxHeartbeats 1000000 in
theorem fractionOfI_no0 (z0 z1 : Int) (w : World) (hL : Lim w) (hz : z0 < -1000000000000000000 ∨ 1000000000000000000 < z0) :
    Calls Tryd.prog 16 #[.int .i64 z0, .int .i64 z1] w (GivesFB w 0 0 false) := by
  have h := Below.refl w.heap.size w
  have hA := below_alloc1 w (.cells #[.int .i64 0, .int .i64 0] 24)
  replace h := Below.step h hA
  have hxr := Box.new w 24 #[.int .i64 0, .int .i64 0]
  clear hA
  obtain ⟨-, t1, -⟩ := hL.kept h
  go_enter Tryd.func16, Tryd.ntmps16
  go_wp2_with fail
  refine (isWithin1_no _ _ (by exact t1) (by omega)).mono ?_
  rintro e w' ⟨rfl, rfl⟩
  go_wp2_with fail
  refine bodyPost_ret (v := .tuple #[.agg #[.int .i64 (0), .int .i64 (0)], .bool false]) (by simp [results, Tryd.results16, go_sem]) rfl ⟨rfl, ?_⟩
  first | exact h | exact (h.setCell (by first | (simp; done) | (simp; omega)) _).setCell (by first | (simp; done) | (simp; omega)) _

set_option maxHeartbeats 1000000 in
theorem fractionOfI_no1 (z0 z1 : Int) (w : World) (hL : Lim w) (h1 : -1000000000000000000 ≤ z0) (h2 : z0 ≤ 1000000000000000000) (hz : z1 < -1000000000000000000 ∨ 1000000000000000000 < z1) :
    Calls Tryd.prog 16 #[.int .i64 z0, .int .i64 z1] w (GivesFB w 0 0 false) := by
  have h := Below.refl w.heap.size w
  have hA := below_alloc1 w (.cells #[.int .i64 0, .int .i64 0] 24)
  replace h := Below.step h hA
  have hxr := Box.new w 24 #[.int .i64 0, .int .i64 0]
  clear hA
  obtain ⟨-, t1, -⟩ := hL.kept h
  go_enter Tryd.func16, Tryd.ntmps16
  go_wp2_with fail
  refine (isWithin1_yes _ _ (by exact t1) (by omega) (by omega)).mono ?_
  rintro e w' ⟨rfl, rfl⟩
  go_wp2_with fail
  refine (isWithin1_no _ _ (by exact t1) (by omega)).mono ?_
  rintro e w' ⟨rfl, rfl⟩
  go_wp2_with fail
  refine bodyPost_ret (v := .tuple #[.agg #[.int .i64 (0), .int .i64 (0)], .bool false]) (by simp [results, Tryd.results16, go_sem]) rfl ⟨rfl, ?_⟩
  first | exact h | exact (h.setCell (by first | (simp; done) | (simp; omega)) _).setCell (by first | (simp; done) | (simp; omega)) _

set_option maxHeartbeats 1000000 in
theorem fractionOfI_zero (z0 : Int) (w : World) (hL : Lim w) (h1 : -1000000000000000000 ≤ z0) (h2 : z0 ≤ 1000000000000000000) :
    Calls Tryd.prog 16 #[.int .i64 z0, .int .i64 0] w (GivesFB w 0 0 false) := by
  have h := Below.refl w.heap.size w
  have hA := below_alloc1 w (.cells #[.int .i64 0, .int .i64 0] 24)
  replace h := Below.step h hA
  have hxr := Box.new w 24 #[.int .i64 0, .int .i64 0]
  clear hA
  obtain ⟨-, t1, -⟩ := hL.kept h
  go_enter Tryd.func16, Tryd.ntmps16
  go_wp2_with fail
  refine (isWithin1_yes _ _ (by exact t1) (by omega) (by omega)).mono ?_
  rintro e w' ⟨rfl, rfl⟩
  go_wp2_with fail
  refine (isWithin1_yes _ _ (by exact t1) (by omega) (by omega)).mono ?_
  rintro e w' ⟨rfl, rfl⟩
  go_wp2_with fail
  refine bodyPost_ret (v := .tuple #[.agg #[.int .i64 (0), .int .i64 (0)], .bool false]) (by simp [results, Tryd.results16, go_sem]) rfl ⟨rfl, ?_⟩
  first | exact h | exact (h.setCell (by first | (simp; done) | (simp; omega)) _).setCell (by first | (simp; done) | (simp; omega)) _

set_option maxHeartbeats 1000000 in
theorem frLess_lt (p0 q0 p1 q1 : Int) (w : World) (g0 : FrG p0 q0) (g1 : FrG p1 q1) (hlt : p0 * q1 < p1 * q0) : Calls Tryd.prog 29 #[.agg #[.int .i64 p0, .int .i64 q0], .agg #[.int .i64 p1, .int .i64 q1]] w (GivesB w true) := by
  obtain ⟨a1, a2, a3, a4, -⟩ := g0
  obtain ⟨b1, b2, b3, b4, -⟩ := g1
  obtain ⟨m1a, m1b⟩ := fr_mul_1e18 (a := p0) (b := q1) (by omega) (by omega) (by omega) (by omega)
  obtain ⟨m2a, m2b⟩ := fr_mul_1e18 (a := p1) (b := q0) (by omega) (by omega) (by omega) (by omega)
  have h := Below.refl w.heap.size w
  have hA := below_alloc1 w (.cells #[.int .i64 p0, .int .i64 q0] 24)
  replace h := Below.step h hA
  have hx0 := Box.new w 24 #[.int .i64 p0, .int .i64 q0]
  clear hA
  have hA := below_alloc1 (w.alloc (.cells #[.int .i64 p0, .int .i64 q0] 24)) (.cells #[.int .i64 p1, .int .i64 q1] 24)
  replace h := Below.step h hA
  replace hx0 := hx0.kept hA
  have hx1 := Box.new (w.alloc (.cells #[.int .i64 p0, .int .i64 q0] 24)) 24 #[.int .i64 p1, .int .i64 q1]
  rw [show (w.alloc (.cells #[.int .i64 p0, .int .i64 q0] 24)).heap.size = w.heap.size + 1 from by simp] at hx1
  clear hA
  go_enter Tryd.func29, Tryd.ntmps29
  go_wp2_with fail
  go_ret
  exact ⟨rfl, h⟩

set_option maxHeartbeats 1000000 in
theorem isLessS_lt (p0 q0 p1 q1 : Int) (w : World) (g0 : FrG p0 q0) (g1 : FrG p1 q1) (hlt : p0 * q1 < p1 * q0) : Calls Tryd.prog 14 #[.agg #[.int .i64 p0, .int .i64 q0], .agg #[.int .i64 p1, .int .i64 q1]] w (GivesBB w true true) := by
  have cl := fun W => frLess_lt p0 q0 p1 q1 W g0 g1 hlt
  replace cl := Lib.hid cl
  clear hlt
  have h := Below.refl w.heap.size w
  have hA := below_alloc1 w (.cells #[.int .i64 p0, .int .i64 q0] 24)
  replace h := Below.step h hA
  have hx0 := Box.new w 24 #[.int .i64 p0, .int .i64 q0]
  clear hA
  have hA := below_alloc1 (w.alloc (.cells #[.int .i64 p0, .int .i64 q0] 24)) (.cells #[.int .i64 p1, .int .i64 q1] 24)
  replace h := Below.step h hA
  replace hx0 := hx0.kept hA
  have hx1 := Box.new (w.alloc (.cells #[.int .i64 p0, .int .i64 q0] 24)) 24 #[.int .i64 p1, .int .i64 q1]
  rw [show (w.alloc (.cells #[.int .i64 p0, .int .i64 q0] 24)).heap.size = w.heap.size + 1 from by simp] at hx1
  clear hA
  go_enter Tryd.func14, Tryd.ntmps14
  go_wp2_with fail
  refine (frTwo_yes p0 q0 p1 q1 _ g0 g1).mono ?_
  rintro e w1 ⟨rfl, hb⟩
  replace h := Below.step h hb
  replace hx0 := hx0.kept hb
  replace hx1 := hx1.kept hb
  clear hb
  obtain ⟨ahx0, bhx0⟩ := hx0.two
  have lhx0 := hx0.lt
  obtain ⟨ahx1, bhx1⟩ := hx1.two
  have lhx1 := hx1.lt
  go_wp2_with fail
  refine (cl.out _).mono ?_
  rintro e w2 ⟨rfl, hb⟩
  replace h := Below.step h hb
  replace hx0 := hx0.kept hb
  replace hx1 := hx1.kept hb
  clear hb ahx0 bhx0 lhx0 ahx1 bhx1 lhx1
  obtain ⟨ahx0, bhx0⟩ := hx0.two
  have lhx0 := hx0.lt
  obtain ⟨ahx1, bhx1⟩ := hx1.two
  have lhx1 := hx1.lt
  go_wp2_with fail
  go_ret2
  exact ⟨rfl, h⟩

set_option maxHeartbeats 1000000 in
theorem isLessI_lt (p0 q0 p1 q1 : Int) (w : World) (hL : Lim w) (g0 : FrG p0 q0) (g1 : FrG p1 q1) (hlt : p0 * q1 < p1 * q0) : Calls Tryd.prog 13 #[.agg #[.int .i64 p0, .int .i64 q0], .agg #[.int .i64 p1, .int .i64 q1]] w (GivesBB w true true) := by
  have g0' := g0
  obtain ⟨a1, a2, a3, a4, -⟩ := g0'
  have g1' := g1
  obtain ⟨b1, b2, b3, b4, -⟩ := g1'
  obtain ⟨m1a, m1b⟩ := fr_mul_1e18 (a := p0) (b := q1) (by omega) (by omega) (by omega) (by omega)
  obtain ⟨m2a, m2b⟩ := fr_mul_1e18 (a := p1) (b := q0) (by omega) (by omega) (by omega) (by omega)
  have ed : decide (p0 * q1 < p1 * q0) = true := decide_eq_true hlt
  clear hlt
  have h := Below.refl w.heap.size w
  have hA := below_alloc1 w (.cells #[.int .i64 p0, .int .i64 q0] 24)
  replace h := Below.step h hA
  have hx0 := Box.new w 24 #[.int .i64 p0, .int .i64 q0]
  clear hA
  have hA := below_alloc1 (w.alloc (.cells #[.int .i64 p0, .int .i64 q0] 24)) (.cells #[.int .i64 p1, .int .i64 q1] 24)
  replace h := Below.step h hA
  replace hx0 := hx0.kept hA
  have hx1 := Box.new (w.alloc (.cells #[.int .i64 p0, .int .i64 q0] 24)) 24 #[.int .i64 p1, .int .i64 q1]
  rw [show (w.alloc (.cells #[.int .i64 p0, .int .i64 q0] 24)).heap.size = w.heap.size + 1 from by simp] at hx1
  clear hA
  go_enter Tryd.func13, Tryd.ntmps13
  go_wp2_with fail
  refine (isFractionI_yes p0 q0 _ (by exact hL.kept h) g0).mono ?_
  rintro e w1 ⟨rfl, hb⟩
  replace h := Below.step h hb
  replace hx0 := hx0.kept hb
  replace hx1 := hx1.kept hb
  clear hb
  obtain ⟨ahx0, bhx0⟩ := hx0.two
  have lhx0 := hx0.lt
  obtain ⟨ahx1, bhx1⟩ := hx1.two
  have lhx1 := hx1.lt
  go_wp2_with fail
  refine (isFractionI_yes p1 q1 _ (by exact hL.kept h) g1).mono ?_
  rintro e w2 ⟨rfl, hb⟩
  replace h := Below.step h hb
  replace hx0 := hx0.kept hb
  replace hx1 := hx1.kept hb
  clear hb ahx0 bhx0 lhx0 ahx1 bhx1 lhx1
  obtain ⟨ahx0, bhx0⟩ := hx0.two
  have lhx0 := hx0.lt
  obtain ⟨ahx1, bhx1⟩ := hx1.two
  have lhx1 := hx1.lt
  go_wp2_with fail
  go_ret2
  exact ⟨rfl, h⟩

set_option maxHeartbeats 1000000 in
theorem frLess_ge (p0 q0 p1 q1 : Int) (w : World) (g0 : FrG p0 q0) (g1 : FrG p1 q1) (hlt : ¬ p0 * q1 < p1 * q0) : Calls Tryd.prog 29 #[.agg #[.int .i64 p0, .int .i64 q0], .agg #[.int .i64 p1, .int .i64 q1]] w (GivesB w false) := by
  obtain ⟨a1, a2, a3, a4, -⟩ := g0
  obtain ⟨b1, b2, b3, b4, -⟩ := g1
  obtain ⟨m1a, m1b⟩ := fr_mul_1e18 (a := p0) (b := q1) (by omega) (by omega) (by omega) (by omega)
  obtain ⟨m2a, m2b⟩ := fr_mul_1e18 (a := p1) (b := q0) (by omega) (by omega) (by omega) (by omega)
  have h := Below.refl w.heap.size w
  have hA := below_alloc1 w (.cells #[.int .i64 p0, .int .i64 q0] 24)
  replace h := Below.step h hA
  have hx0 := Box.new w 24 #[.int .i64 p0, .int .i64 q0]
  clear hA
  have hA := below_alloc1 (w.alloc (.cells #[.int .i64 p0, .int .i64 q0] 24)) (.cells #[.int .i64 p1, .int .i64 q1] 24)
  replace h := Below.step h hA
  replace hx0 := hx0.kept hA
  have hx1 := Box.new (w.alloc (.cells #[.int .i64 p0, .int .i64 q0] 24)) 24 #[.int .i64 p1, .int .i64 q1]
  rw [show (w.alloc (.cells #[.int .i64 p0, .int .i64 q0] 24)).heap.size = w.heap.size + 1 from by simp] at hx1
  clear hA
  go_enter Tryd.func29, Tryd.ntmps29
  go_wp2_with fail
  go_ret
  exact ⟨rfl, h⟩

set_option maxHeartbeats 1000000 in
theorem isLessS_ge (p0 q0 p1 q1 : Int) (w : World) (g0 : FrG p0 q0) (g1 : FrG p1 q1) (hlt : ¬ p0 * q1 < p1 * q0) : Calls Tryd.prog 14 #[.agg #[.int .i64 p0, .int .i64 q0], .agg #[.int .i64 p1, .int .i64 q1]] w (GivesBB w false true) := by
  have cl := fun W => frLess_ge p0 q0 p1 q1 W g0 g1 hlt
  replace cl := Lib.hid cl
  clear hlt
  have h := Below.refl w.heap.size w
  have hA := below_alloc1 w (.cells #[.int .i64 p0, .int .i64 q0] 24)
  replace h := Below.step h hA
  have hx0 := Box.new w 24 #[.int .i64 p0, .int .i64 q0]
  clear hA
  have hA := below_alloc1 (w.alloc (.cells #[.int .i64 p0, .int .i64 q0] 24)) (.cells #[.int .i64 p1, .int .i64 q1] 24)
  replace h := Below.step h hA
  replace hx0 := hx0.kept hA
  have hx1 := Box.new (w.alloc (.cells #[.int .i64 p0, .int .i64 q0] 24)) 24 #[.int .i64 p1, .int .i64 q1]
  rw [show (w.alloc (.cells #[.int .i64 p0, .int .i64 q0] 24)).heap.size = w.heap.size + 1 from by simp] at hx1
  clear hA
  go_enter Tryd.func14, Tryd.ntmps14
  go_wp2_with fail
  refine (frTwo_yes p0 q0 p1 q1 _ g0 g1).mono ?_
  rintro e w1 ⟨rfl, hb⟩
  replace h := Below.step h hb
  replace hx0 := hx0.kept hb
  replace hx1 := hx1.kept hb
  clear hb
  obtain ⟨ahx0, bhx0⟩ := hx0.two
  have lhx0 := hx0.lt
  obtain ⟨ahx1, bhx1⟩ := hx1.two
  have lhx1 := hx1.lt
  go_wp2_with fail
  refine (cl.out _).mono ?_
  rintro e w2 ⟨rfl, hb⟩
  replace h := Below.step h hb
  replace hx0 := hx0.kept hb
  replace hx1 := hx1.kept hb
  clear hb ahx0 bhx0 lhx0 ahx1 bhx1 lhx1
  obtain ⟨ahx0, bhx0⟩ := hx0.two
  have lhx0 := hx0.lt
  obtain ⟨ahx1, bhx1⟩ := hx1.two
  have lhx1 := hx1.lt
  go_wp2_with fail
  go_ret2
  exact ⟨rfl, h⟩

set_option maxHeartbeats 1000000 in
theorem isLessI_ge (p0 q0 p1 q1 : Int) (w : World) (hL : Lim w) (g0 : FrG p0 q0) (g1 : FrG p1 q1) (hlt : ¬ p0 * q1 < p1 * q0) : Calls Tryd.prog 13 #[.agg #[.int .i64 p0, .int .i64 q0], .agg #[.int .i64 p1, .int .i64 q1]] w (GivesBB w false true) := by
  have g0' := g0
  obtain ⟨a1, a2, a3, a4, -⟩ := g0'
  have g1' := g1
  obtain ⟨b1, b2, b3, b4, -⟩ := g1'
  obtain ⟨m1a, m1b⟩ := fr_mul_1e18 (a := p0) (b := q1) (by omega) (by omega) (by omega) (by omega)
  obtain ⟨m2a, m2b⟩ := fr_mul_1e18 (a := p1) (b := q0) (by omega) (by omega) (by omega) (by omega)
  have ed : decide (p0 * q1 < p1 * q0) = false := decide_eq_false hlt
  clear hlt
  have h := Below.refl w.heap.size w
  have hA := below_alloc1 w (.cells #[.int .i64 p0, .int .i64 q0] 24)
  replace h := Below.step h hA
  have hx0 := Box.new w 24 #[.int .i64 p0, .int .i64 q0]
  clear hA
  have hA := below_alloc1 (w.alloc (.cells #[.int .i64 p0, .int .i64 q0] 24)) (.cells #[.int .i64 p1, .int .i64 q1] 24)
  replace h := Below.step h hA
  replace hx0 := hx0.kept hA
  have hx1 := Box.new (w.alloc (.cells #[.int .i64 p0, .int .i64 q0] 24)) 24 #[.int .i64 p1, .int .i64 q1]
  rw [show (w.alloc (.cells #[.int .i64 p0, .int .i64 q0] 24)).heap.size = w.heap.size + 1 from by simp] at hx1
  clear hA
  go_enter Tryd.func13, Tryd.ntmps13
  go_wp2_with fail
  refine (isFractionI_yes p0 q0 _ (by exact hL.kept h) g0).mono ?_
  rintro e w1 ⟨rfl, hb⟩
  replace h := Below.step h hb
  replace hx0 := hx0.kept hb
  replace hx1 := hx1.kept hb
  clear hb
  obtain ⟨ahx0, bhx0⟩ := hx0.two
  have lhx0 := hx0.lt
  obtain ⟨ahx1, bhx1⟩ := hx1.two
  have lhx1 := hx1.lt
  go_wp2_with fail
  refine (isFractionI_yes p1 q1 _ (by exact hL.kept h) g1).mono ?_
  rintro e w2 ⟨rfl, hb⟩
  replace h := Below.step h hb
  replace hx0 := hx0.kept hb
  replace hx1 := hx1.kept hb
  clear hb ahx0 bhx0 lhx0 ahx1 bhx1 lhx1
  obtain ⟨ahx0, bhx0⟩ := hx0.two
  have lhx0 := hx0.lt
  obtain ⟨ahx1, bhx1⟩ := hx1.two
  have lhx1 := hx1.lt
  go_wp2_with fail
  go_ret2
  exact ⟨rfl, h⟩

set_option maxHeartbeats 1000000 in
theorem isLessS_no (p0 q0 p1 q1 : Int) (w : World) (g : ¬ (FrG p0 q0 ∧ FrG p1 q1)) : Calls Tryd.prog 14 #[.agg #[.int .i64 p0, .int .i64 q0], .agg #[.int .i64 p1, .int .i64 q1]] w (GivesBB w false false) := by
  have h := Below.refl w.heap.size w
  have hA := below_alloc1 w (.cells #[.int .i64 p0, .int .i64 q0] 24)
  replace h := Below.step h hA
  have hx0 := Box.new w 24 #[.int .i64 p0, .int .i64 q0]
  clear hA
  have hA := below_alloc1 (w.alloc (.cells #[.int .i64 p0, .int .i64 q0] 24)) (.cells #[.int .i64 p1, .int .i64 q1] 24)
  replace h := Below.step h hA
  replace hx0 := hx0.kept hA
  have hx1 := Box.new (w.alloc (.cells #[.int .i64 p0, .int .i64 q0] 24)) 24 #[.int .i64 p1, .int .i64 q1]
  rw [show (w.alloc (.cells #[.int .i64 p0, .int .i64 q0] 24)).heap.size = w.heap.size + 1 from by simp] at hx1
  clear hA
  go_enter Tryd.func14, Tryd.ntmps14
  go_wp2_with fail
  refine (frTwo_no p0 q0 p1 q1 _ g).mono ?_
  rintro e w1 ⟨rfl, hb⟩
  replace h := Below.step h hb
  replace hx0 := hx0.kept hb
  replace hx1 := hx1.kept hb
  clear hb
  obtain ⟨ahx0, bhx0⟩ := hx0.two
  have lhx0 := hx0.lt
  obtain ⟨ahx1, bhx1⟩ := hx1.two
  have lhx1 := hx1.lt
  go_wp2_with fail
  go_ret2
  exact ⟨rfl, h⟩

set_option maxHeartbeats 1000000 in
theorem isLessI_no0 (p0 q0 p1 q1 : Int) (w : World) (hL : Lim w) (g0 : ¬ FrG p0 q0) : Calls Tryd.prog 13 #[.agg #[.int .i64 p0, .int .i64 q0], .agg #[.int .i64 p1, .int .i64 q1]] w (GivesBB w false false) := by
  have h := Below.refl w.heap.size w
  have hA := below_alloc1 w (.cells #[.int .i64 p0, .int .i64 q0] 24)
  replace h := Below.step h hA
  have hx0 := Box.new w 24 #[.int .i64 p0, .int .i64 q0]
  clear hA
  have hA := below_alloc1 (w.alloc (.cells #[.int .i64 p0, .int .i64 q0] 24)) (.cells #[.int .i64 p1, .int .i64 q1] 24)
  replace h := Below.step h hA
  replace hx0 := hx0.kept hA
  have hx1 := Box.new (w.alloc (.cells #[.int .i64 p0, .int .i64 q0] 24)) 24 #[.int .i64 p1, .int .i64 q1]
  rw [show (w.alloc (.cells #[.int .i64 p0, .int .i64 q0] 24)).heap.size = w.heap.size + 1 from by simp] at hx1
  clear hA
  go_enter Tryd.func13, Tryd.ntmps13
  go_wp2_with fail
  refine (isFractionI_no p0 q0 _ (by exact hL.kept h) g0).mono ?_
  rintro e w1 ⟨rfl, hb⟩
  replace h := Below.step h hb
  replace hx0 := hx0.kept hb
  replace hx1 := hx1.kept hb
  clear hb
  obtain ⟨ahx0, bhx0⟩ := hx0.two
  have lhx0 := hx0.lt
  obtain ⟨ahx1, bhx1⟩ := hx1.two
  have lhx1 := hx1.lt
  go_wp2_with fail
  go_ret2
  exact ⟨rfl, h⟩

set_option maxHeartbeats 1000000 in
theorem isLessI_no1 (p0 q0 p1 q1 : Int) (w : World) (hL : Lim w) (g0 : FrG p0 q0) (g1 : ¬ FrG p1 q1) : Calls Tryd.prog 13 #[.agg #[.int .i64 p0, .int .i64 q0], .agg #[.int .i64 p1, .int .i64 q1]] w (GivesBB w false false) := by
  have h := Below.refl w.heap.size w
  have hA := below_alloc1 w (.cells #[.int .i64 p0, .int .i64 q0] 24)
  replace h := Below.step h hA
  have hx0 := Box.new w 24 #[.int .i64 p0, .int .i64 q0]
  clear hA
  have hA := below_alloc1 (w.alloc (.cells #[.int .i64 p0, .int .i64 q0] 24)) (.cells #[.int .i64 p1, .int .i64 q1] 24)
  replace h := Below.step h hA
  replace hx0 := hx0.kept hA
  have hx1 := Box.new (w.alloc (.cells #[.int .i64 p0, .int .i64 q0] 24)) 24 #[.int .i64 p1, .int .i64 q1]
  rw [show (w.alloc (.cells #[.int .i64 p0, .int .i64 q0] 24)).heap.size = w.heap.size + 1 from by simp] at hx1
  clear hA
  go_enter Tryd.func13, Tryd.ntmps13
  go_wp2_with fail
  refine (isFractionI_yes p0 q0 _ (by exact hL.kept h) g0).mono ?_
  rintro e w1 ⟨rfl, hb⟩
  replace h := Below.step h hb
  replace hx0 := hx0.kept hb
  replace hx1 := hx1.kept hb
  clear hb
  obtain ⟨ahx0, bhx0⟩ := hx0.two
  have lhx0 := hx0.lt
  obtain ⟨ahx1, bhx1⟩ := hx1.two
  have lhx1 := hx1.lt
  go_wp2_with fail
  refine (isFractionI_no p1 q1 _ (by exact hL.kept h) g1).mono ?_
  rintro e w2 ⟨rfl, hb⟩
  replace h := Below.step h hb
  replace hx0 := hx0.kept hb
  replace hx1 := hx1.kept hb
  clear hb ahx0 bhx0 lhx0 ahx1 bhx1 lhx1
  obtain ⟨ahx0, bhx0⟩ := hx0.two
  have lhx0 := hx0.lt
  obtain ⟨ahx1, bhx1⟩ := hx1.two
  have lhx1 := hx1.lt
  go_wp2_with fail
  go_ret2
  exact ⟨rfl, h⟩

theorem isLessI_no (p0 q0 p1 q1 : Int) (w : World) (hL : Lim w) (g : ¬ (FrG p0 q0 ∧ FrG p1 q1)) : Calls Tryd.prog 13 #[.agg #[.int .i64 p0, .int .i64 q0], .agg #[.int .i64 p1, .int .i64 q1]] w (GivesBB w false false) := by
  by_cases g0 : FrG p0 q0
  · exact isLessI_no1 p0 q0 p1 q1 w hL g0 (fun g1 => g ⟨g0, g1⟩)
  · exact isLessI_no0 p0 q0 p1 q1 w hL g0
end Go.Proofs.YtchglkcfolannaaDoor
