/- FractionOf, IsLess, FloorAndRest, FractionHeight: the model's and the program's, and the laws (written by wip/gen/frhalf.py). -/
import Derived.Test.YteolfmhihnpjpaaDoorFrOps
import Derived.Test.YteolfmhihnpjpaaDoorFrLFractionOf
import Derived.Test.YteolfmhihnpjpaaDoorFrLIsLess
import Derived.Test.YteolfmhihnpjpaaDoorFrLFloorAndRest
import Derived.Test.YteolfmhihnpjpaaDoorFrLFractionHeight
namespace Go.Proofs.YteolfmhihnpjpaaDoor
open Go.RowKit Go.Joins

theorem ret_int' {k : IntKind} {a b : Int} (h : a = b) : Ending.returned (.int k a) = .returned (.int k b) := by rw [h]

set_option maxHeartbeats 1000000 in
theorem fractionOfS_yes (z0 z1 : Int) (w : World) (h1 : -1000000000000000000 ≤ z0) (h2 : z0 ≤ 1000000000000000000) (h3 : -1000000000000000000 ≤ z1) (h4 : z1 ≤ 1000000000000000000) (hne : z1 ≠ 0) :
    Calls Tryd.prog 18 #[.int .i64 z0, .int .i64 z1] w (GivesFB w (lowRP z0 z1) (lowRQ z0 z1) (lowB z0 z1)) := by
  obtain ⟨P, hP⟩ : ∃ P, P = lowRP z0 z1 := ⟨_, rfl⟩
  obtain ⟨Q, hQ⟩ : ∃ Q, Q = lowRQ z0 z1 := ⟨_, rfl⟩
  obtain ⟨B, hB⟩ : ∃ B, B = lowB z0 z1 := ⟨_, rfl⟩
  have c1 := fun (W : World) => frMake_any z0 z1 W (by omega) (by omega) (by omega) (by omega)
  rw [← hP, ← hQ, ← hB] at c1
  rw [← hP, ← hQ, ← hB]
  replace c1 := Lib.hid c1
  clear hP hQ hB
  have ez : (z1 == 0) = false := beq_eq_false_iff_ne.2 hne
  clear hne
  have h := Below.refl w.heap.size w
  have hA := below_alloc1 w (.cells #[.int .i64 0, .int .i64 0] 25)
  replace h := Below.step h hA
  have hxr := Box.new w 25 #[.int .i64 0, .int .i64 0]
  clear hA
  go_enter Tryd.func18, Tryd.ntmps18
  go_wp2_with fail
  refine (l1In_yes _ _ _ _ (by omega) (by omega)).mono ?_
  rintro e w' ⟨rfl, rfl⟩
  go_wp2_with fail
  refine (l1In_yes _ _ _ _ (by omega) (by omega)).mono ?_
  rintro e w' ⟨rfl, rfl⟩
  go_wp2_with fail
  refine (c1.out _).mono ?_
  rintro e w1 ⟨rfl, hb⟩
  replace h := Below.step h hb
  replace hxr := hxr.kept hb
  clear hb
  obtain ⟨ahxr, bhxr⟩ := hxr.two
  have lhxr := hxr.lt
  have f0 := hxr.free 0
  have f1 := hxr.free 1
  go_wp2_with fail
  refine bodyPost_ret (v := .tuple #[.agg #[.int .i64 (P), .int .i64 (Q)], .bool B]) (by simp [results, Tryd.results18, go_sem, ahxr, bhxr]) rfl ⟨rfl, ?_⟩
  exact (h.setCell (by first | (simp; done) | (simp; omega)) _).setCell (by first | (simp; done) | (simp; omega)) _

set_option maxHeartbeats 1000000 in
theorem fractionOfS_no0 (z0 z1 : Int) (w : World) (hz : z0 < -1000000000000000000 ∨ 1000000000000000000 < z0) :
    Calls Tryd.prog 18 #[.int .i64 z0, .int .i64 z1] w (GivesFB w 0 0 false) := by
  have h := Below.refl w.heap.size w
  have hA := below_alloc1 w (.cells #[.int .i64 0, .int .i64 0] 25)
  replace h := Below.step h hA
  have hxr := Box.new w 25 #[.int .i64 0, .int .i64 0]
  clear hA
  go_enter Tryd.func18, Tryd.ntmps18
  go_wp2_with fail
  refine (l1In_no _ _ _ _ (by omega)).mono ?_
  rintro e w' ⟨rfl, rfl⟩
  go_wp2_with fail
  refine bodyPost_ret (v := .tuple #[.agg #[.int .i64 (0), .int .i64 (0)], .bool false]) (by simp [results, Tryd.results18, go_sem]) rfl ⟨rfl, ?_⟩
  first | exact h | exact (h.setCell (by first | (simp; done) | (simp; omega)) _).setCell (by first | (simp; done) | (simp; omega)) _

set_option maxHeartbeats 1000000 in
theorem fractionOfS_no1 (z0 z1 : Int) (w : World) (h1 : -1000000000000000000 ≤ z0) (h2 : z0 ≤ 1000000000000000000) (hz : z1 < -1000000000000000000 ∨ 1000000000000000000 < z1) :
    Calls Tryd.prog 18 #[.int .i64 z0, .int .i64 z1] w (GivesFB w 0 0 false) := by
  have h := Below.refl w.heap.size w
  have hA := below_alloc1 w (.cells #[.int .i64 0, .int .i64 0] 25)
  replace h := Below.step h hA
  have hxr := Box.new w 25 #[.int .i64 0, .int .i64 0]
  clear hA
  go_enter Tryd.func18, Tryd.ntmps18
  go_wp2_with fail
  refine (l1In_yes _ _ _ _ (by omega) (by omega)).mono ?_
  rintro e w' ⟨rfl, rfl⟩
  go_wp2_with fail
  refine (l1In_no _ _ _ _ (by omega)).mono ?_
  rintro e w' ⟨rfl, rfl⟩
  go_wp2_with fail
  refine bodyPost_ret (v := .tuple #[.agg #[.int .i64 (0), .int .i64 (0)], .bool false]) (by simp [results, Tryd.results18, go_sem]) rfl ⟨rfl, ?_⟩
  first | exact h | exact (h.setCell (by first | (simp; done) | (simp; omega)) _).setCell (by first | (simp; done) | (simp; omega)) _

set_option maxHeartbeats 1000000 in
theorem fractionOfS_zero (z0 : Int) (w : World) (h1 : -1000000000000000000 ≤ z0) (h2 : z0 ≤ 1000000000000000000) :
    Calls Tryd.prog 18 #[.int .i64 z0, .int .i64 0] w (GivesFB w 0 0 false) := by
  have h := Below.refl w.heap.size w
  have hA := below_alloc1 w (.cells #[.int .i64 0, .int .i64 0] 25)
  replace h := Below.step h hA
  have hxr := Box.new w 25 #[.int .i64 0, .int .i64 0]
  clear hA
  go_enter Tryd.func18, Tryd.ntmps18
  go_wp2_with fail
  refine (l1In_yes _ _ _ _ (by omega) (by omega)).mono ?_
  rintro e w' ⟨rfl, rfl⟩
  go_wp2_with fail
  refine (l1In_yes _ _ _ _ (by omega) (by omega)).mono ?_
  rintro e w' ⟨rfl, rfl⟩
  go_wp2_with fail
  refine bodyPost_ret (v := .tuple #[.agg #[.int .i64 (0), .int .i64 (0)], .bool false]) (by simp [results, Tryd.results18, go_sem]) rfl ⟨rfl, ?_⟩
  first | exact h | exact (h.setCell (by first | (simp; done) | (simp; omega)) _).setCell (by first | (simp; done) | (simp; omega)) _

set_option maxHeartbeats 1000000 in
theorem fractionOfI_yes (z0 z1 : Int) (w : World) (hL : Lim w) (h1 : -1000000000000000000 ≤ z0) (h2 : z0 ≤ 1000000000000000000) (h3 : -1000000000000000000 ≤ z1) (h4 : z1 ≤ 1000000000000000000) (hne : z1 ≠ 0) :
    Calls Tryd.prog 19 #[.int .i64 z0, .int .i64 z1] w (GivesFB w (lowRP z0 z1) (lowRQ z0 z1) (lowB z0 z1)) := by
  obtain ⟨P, hP⟩ : ∃ P, P = lowRP z0 z1 := ⟨_, rfl⟩
  obtain ⟨Q, hQ⟩ : ∃ Q, Q = lowRQ z0 z1 := ⟨_, rfl⟩
  obtain ⟨B, hB⟩ : ∃ B, B = lowB z0 z1 := ⟨_, rfl⟩
  have c1 := fun (W : World) (hL : Lim W) => inLowest_any z0 z1 W hL (by omega) (by omega) (by omega) (by omega) hne
  rw [← hP, ← hQ, ← hB] at c1
  rw [← hP, ← hQ, ← hB]
  replace c1 := Lib.hid c1
  clear hP hQ hB
  have ez : (z1 == 0) = false := beq_eq_false_iff_ne.2 hne
  clear hne
  have h := Below.refl w.heap.size w
  have hA := below_alloc1 w (.cells #[.int .i64 0, .int .i64 0] 25)
  replace h := Below.step h hA
  have hxr := Box.new w 25 #[.int .i64 0, .int .i64 0]
  clear hA
  obtain ⟨-, t1, -⟩ := hL.kept h
  go_enter Tryd.func19, Tryd.ntmps19
  go_wp2_with fail
  refine (isWithin1_yes _ _ (by exact t1) (by omega) (by omega)).mono ?_
  rintro e w' ⟨rfl, rfl⟩
  go_wp2_with fail
  refine (isWithin1_yes _ _ (by exact t1) (by omega) (by omega)).mono ?_
  rintro e w' ⟨rfl, rfl⟩
  go_wp2_with fail
  refine (c1.out _ (by exact hL.kept h)).mono ?_
  rintro e w1 ⟨rfl, hb⟩
  replace h := Below.step h hb
  replace hxr := hxr.kept hb
  clear hb
  obtain ⟨ahxr, bhxr⟩ := hxr.two
  have lhxr := hxr.lt
  have f0 := hxr.free 0
  have f1 := hxr.free 1
  go_wp2_with fail
  refine bodyPost_ret (v := .tuple #[.agg #[.int .i64 (P), .int .i64 (Q)], .bool B]) (by simp [results, Tryd.results19, go_sem, ahxr, bhxr]) rfl ⟨rfl, ?_⟩
  exact (h.setCell (by first | (simp; done) | (simp; omega)) _).setCell (by first | (simp; done) | (simp; omega)) _

set_option maxHeartbeats 1000000 in
theorem fractionOfI_no0 (z0 z1 : Int) (w : World) (hL : Lim w) (hz : z0 < -1000000000000000000 ∨ 1000000000000000000 < z0) :
    Calls Tryd.prog 19 #[.int .i64 z0, .int .i64 z1] w (GivesFB w 0 0 false) := by
  have h := Below.refl w.heap.size w
  have hA := below_alloc1 w (.cells #[.int .i64 0, .int .i64 0] 25)
  replace h := Below.step h hA
  have hxr := Box.new w 25 #[.int .i64 0, .int .i64 0]
  clear hA
  obtain ⟨-, t1, -⟩ := hL.kept h
  go_enter Tryd.func19, Tryd.ntmps19
  go_wp2_with fail
  refine (isWithin1_no _ _ (by exact t1) (by omega)).mono ?_
  rintro e w' ⟨rfl, rfl⟩
  go_wp2_with fail
  refine bodyPost_ret (v := .tuple #[.agg #[.int .i64 (0), .int .i64 (0)], .bool false]) (by simp [results, Tryd.results19, go_sem]) rfl ⟨rfl, ?_⟩
  first | exact h | exact (h.setCell (by first | (simp; done) | (simp; omega)) _).setCell (by first | (simp; done) | (simp; omega)) _

set_option maxHeartbeats 1000000 in
theorem fractionOfI_no1 (z0 z1 : Int) (w : World) (hL : Lim w) (h1 : -1000000000000000000 ≤ z0) (h2 : z0 ≤ 1000000000000000000) (hz : z1 < -1000000000000000000 ∨ 1000000000000000000 < z1) :
    Calls Tryd.prog 19 #[.int .i64 z0, .int .i64 z1] w (GivesFB w 0 0 false) := by
  have h := Below.refl w.heap.size w
  have hA := below_alloc1 w (.cells #[.int .i64 0, .int .i64 0] 25)
  replace h := Below.step h hA
  have hxr := Box.new w 25 #[.int .i64 0, .int .i64 0]
  clear hA
  obtain ⟨-, t1, -⟩ := hL.kept h
  go_enter Tryd.func19, Tryd.ntmps19
  go_wp2_with fail
  refine (isWithin1_yes _ _ (by exact t1) (by omega) (by omega)).mono ?_
  rintro e w' ⟨rfl, rfl⟩
  go_wp2_with fail
  refine (isWithin1_no _ _ (by exact t1) (by omega)).mono ?_
  rintro e w' ⟨rfl, rfl⟩
  go_wp2_with fail
  refine bodyPost_ret (v := .tuple #[.agg #[.int .i64 (0), .int .i64 (0)], .bool false]) (by simp [results, Tryd.results19, go_sem]) rfl ⟨rfl, ?_⟩
  first | exact h | exact (h.setCell (by first | (simp; done) | (simp; omega)) _).setCell (by first | (simp; done) | (simp; omega)) _

set_option maxHeartbeats 1000000 in
theorem fractionOfI_zero (z0 : Int) (w : World) (hL : Lim w) (h1 : -1000000000000000000 ≤ z0) (h2 : z0 ≤ 1000000000000000000) :
    Calls Tryd.prog 19 #[.int .i64 z0, .int .i64 0] w (GivesFB w 0 0 false) := by
  have h := Below.refl w.heap.size w
  have hA := below_alloc1 w (.cells #[.int .i64 0, .int .i64 0] 25)
  replace h := Below.step h hA
  have hxr := Box.new w 25 #[.int .i64 0, .int .i64 0]
  clear hA
  obtain ⟨-, t1, -⟩ := hL.kept h
  go_enter Tryd.func19, Tryd.ntmps19
  go_wp2_with fail
  refine (isWithin1_yes _ _ (by exact t1) (by omega) (by omega)).mono ?_
  rintro e w' ⟨rfl, rfl⟩
  go_wp2_with fail
  refine (isWithin1_yes _ _ (by exact t1) (by omega) (by omega)).mono ?_
  rintro e w' ⟨rfl, rfl⟩
  go_wp2_with fail
  refine bodyPost_ret (v := .tuple #[.agg #[.int .i64 (0), .int .i64 (0)], .bool false]) (by simp [results, Tryd.results19, go_sem]) rfl ⟨rfl, ?_⟩
  first | exact h | exact (h.setCell (by first | (simp; done) | (simp; omega)) _).setCell (by first | (simp; done) | (simp; omega)) _

theorem lawFractionOf_any (z0 z1 : Int) (w : World) (hL : Lim w) (_ : -9223372036854775808 ≤ z0 ∧ z0 ≤ 9223372036854775807) (_ : -9223372036854775808 ≤ z1 ∧ z1 ≤ 9223372036854775807) :
    Calls Tryd.prog 4 #[.int .i64 z0, .int .i64 z1] w fun e w' => e = .returned (.bool true) ∧ Below w.heap.size w w' := by
  by_cases h0 : -1000000000000000000 ≤ z0 ∧ z0 ≤ 1000000000000000000
  · by_cases h1 : -1000000000000000000 ≤ z1 ∧ z1 ≤ 1000000000000000000
    · by_cases hz : z1 = 0
      · subst hz
        exact lawFractionOf_core z0 0 w hL 0 0 false (fun W => fractionOfS_zero z0 W h0.1 h0.2) (fun W hL => fractionOfI_zero z0 W hL h0.1 h0.2)
      · exact lawFractionOf_core z0 z1 w hL _ _ _ (fun W => fractionOfS_yes z0 z1 W h0.1 h0.2 h1.1 h1.2 hz) (fun W hL => fractionOfI_yes z0 z1 W hL h0.1 h0.2 h1.1 h1.2 hz)
    · exact lawFractionOf_core z0 z1 w hL 0 0 false (fun W => fractionOfS_no1 z0 z1 W h0.1 h0.2 (by omega)) (fun W hL => fractionOfI_no1 z0 z1 W hL h0.1 h0.2 (by omega))
  · exact lawFractionOf_core z0 z1 w hL 0 0 false (fun W => fractionOfS_no0 z0 z1 W (by omega)) (fun W hL => fractionOfI_no0 z0 z1 W hL (by omega))

set_option maxHeartbeats 1000000 in
theorem frLess_lt (p0 q0 p1 q1 : Int) (w : World) (g0 : FrG p0 q0) (g1 : FrG p1 q1) (hlt : p0 * q1 < p1 * q0) : Calls Tryd.prog 54 #[.agg #[.int .i64 p0, .int .i64 q0], .agg #[.int .i64 p1, .int .i64 q1]] w (GivesB w true) := by
  obtain ⟨a1, a2, a3, a4, -⟩ := g0
  obtain ⟨b1, b2, b3, b4, -⟩ := g1
  obtain ⟨m1a, m1b⟩ := fr_mul_1e18 (a := p0) (b := q1) (by omega) (by omega) (by omega) (by omega)
  obtain ⟨m2a, m2b⟩ := fr_mul_1e18 (a := p1) (b := q0) (by omega) (by omega) (by omega) (by omega)
  have h := Below.refl w.heap.size w
  have hA := below_alloc1 w (.cells #[.int .i64 p0, .int .i64 q0] 25)
  replace h := Below.step h hA
  have hx0 := Box.new w 25 #[.int .i64 p0, .int .i64 q0]
  clear hA
  have hA := below_alloc1 (w.alloc (.cells #[.int .i64 p0, .int .i64 q0] 25)) (.cells #[.int .i64 p1, .int .i64 q1] 25)
  replace h := Below.step h hA
  replace hx0 := hx0.kept hA
  have hx1 := Box.new (w.alloc (.cells #[.int .i64 p0, .int .i64 q0] 25)) 25 #[.int .i64 p1, .int .i64 q1]
  rw [show (w.alloc (.cells #[.int .i64 p0, .int .i64 q0] 25)).heap.size = w.heap.size + 1 from by simp] at hx1
  clear hA
  go_enter Tryd.func54, Tryd.ntmps54
  go_wp2_with fail
  go_ret
  exact ⟨rfl, h⟩

set_option maxHeartbeats 1000000 in
theorem isLessS_lt (p0 q0 p1 q1 : Int) (w : World) (g0 : FrG p0 q0) (g1 : FrG p1 q1) (hlt : p0 * q1 < p1 * q0) : Calls Tryd.prog 29 #[.agg #[.int .i64 p0, .int .i64 q0], .agg #[.int .i64 p1, .int .i64 q1]] w (GivesBB w true true) := by
  have cl := fun W => frLess_lt p0 q0 p1 q1 W g0 g1 hlt
  replace cl := Lib.hid cl
  clear hlt
  have h := Below.refl w.heap.size w
  have hA := below_alloc1 w (.cells #[.int .i64 p0, .int .i64 q0] 25)
  replace h := Below.step h hA
  have hx0 := Box.new w 25 #[.int .i64 p0, .int .i64 q0]
  clear hA
  have hA := below_alloc1 (w.alloc (.cells #[.int .i64 p0, .int .i64 q0] 25)) (.cells #[.int .i64 p1, .int .i64 q1] 25)
  replace h := Below.step h hA
  replace hx0 := hx0.kept hA
  have hx1 := Box.new (w.alloc (.cells #[.int .i64 p0, .int .i64 q0] 25)) 25 #[.int .i64 p1, .int .i64 q1]
  rw [show (w.alloc (.cells #[.int .i64 p0, .int .i64 q0] 25)).heap.size = w.heap.size + 1 from by simp] at hx1
  clear hA
  go_enter Tryd.func29, Tryd.ntmps29
  go_wp2_with fail
  refine (frTwo_yes p0 q0 p1 q1 _ g0 g1).mono ?_
  rintro e w1 ⟨rfl, hb⟩
  replace h := Below.step h hb
  replace hx0 := hx0.kept hb
  replace hx1 := hx1.kept hb
  clear hb
  obtain ⟨ahx0, bhx0⟩ := hx0.two
  have lhx0 := hx0.lt
  obtain ⟨ahx1, bhx1⟩ := hx1.two
  have lhx1 := hx1.lt
  go_wp2_with fail
  refine (cl.out _).mono ?_
  rintro e w2 ⟨rfl, hb⟩
  replace h := Below.step h hb
  replace hx0 := hx0.kept hb
  replace hx1 := hx1.kept hb
  clear hb ahx0 bhx0 lhx0 ahx1 bhx1 lhx1
  obtain ⟨ahx0, bhx0⟩ := hx0.two
  have lhx0 := hx0.lt
  obtain ⟨ahx1, bhx1⟩ := hx1.two
  have lhx1 := hx1.lt
  go_wp2_with fail
  go_ret2
  exact ⟨rfl, h⟩

set_option maxHeartbeats 1000000 in
theorem isLessI_lt (p0 q0 p1 q1 : Int) (w : World) (hL : Lim w) (g0 : FrG p0 q0) (g1 : FrG p1 q1) (hlt : p0 * q1 < p1 * q0) : Calls Tryd.prog 30 #[.agg #[.int .i64 p0, .int .i64 q0], .agg #[.int .i64 p1, .int .i64 q1]] w (GivesBB w true true) := by
  have g0' := g0
  obtain ⟨a1, a2, a3, a4, -⟩ := g0'
  have g1' := g1
  obtain ⟨b1, b2, b3, b4, -⟩ := g1'
  obtain ⟨m1a, m1b⟩ := fr_mul_1e18 (a := p0) (b := q1) (by omega) (by omega) (by omega) (by omega)
  obtain ⟨m2a, m2b⟩ := fr_mul_1e18 (a := p1) (b := q0) (by omega) (by omega) (by omega) (by omega)
  have ed : decide (p0 * q1 < p1 * q0) = true := decide_eq_true hlt
  clear hlt
  have h := Below.refl w.heap.size w
  have hA := below_alloc1 w (.cells #[.int .i64 p0, .int .i64 q0] 25)
  replace h := Below.step h hA
  have hx0 := Box.new w 25 #[.int .i64 p0, .int .i64 q0]
  clear hA
  have hA := below_alloc1 (w.alloc (.cells #[.int .i64 p0, .int .i64 q0] 25)) (.cells #[.int .i64 p1, .int .i64 q1] 25)
  replace h := Below.step h hA
  replace hx0 := hx0.kept hA
  have hx1 := Box.new (w.alloc (.cells #[.int .i64 p0, .int .i64 q0] 25)) 25 #[.int .i64 p1, .int .i64 q1]
  rw [show (w.alloc (.cells #[.int .i64 p0, .int .i64 q0] 25)).heap.size = w.heap.size + 1 from by simp] at hx1
  clear hA
  go_enter Tryd.func30, Tryd.ntmps30
  go_wp2_with fail
  refine (isFractionI_yes p0 q0 _ (by exact hL.kept h) g0).mono ?_
  rintro e w1 ⟨rfl, hb⟩
  replace h := Below.step h hb
  replace hx0 := hx0.kept hb
  replace hx1 := hx1.kept hb
  clear hb
  obtain ⟨ahx0, bhx0⟩ := hx0.two
  have lhx0 := hx0.lt
  obtain ⟨ahx1, bhx1⟩ := hx1.two
  have lhx1 := hx1.lt
  go_wp2_with fail
  refine (isFractionI_yes p1 q1 _ (by exact hL.kept h) g1).mono ?_
  rintro e w2 ⟨rfl, hb⟩
  replace h := Below.step h hb
  replace hx0 := hx0.kept hb
  replace hx1 := hx1.kept hb
  clear hb ahx0 bhx0 lhx0 ahx1 bhx1 lhx1
  obtain ⟨ahx0, bhx0⟩ := hx0.two
  have lhx0 := hx0.lt
  obtain ⟨ahx1, bhx1⟩ := hx1.two
  have lhx1 := hx1.lt
  go_wp2_with fail
  go_ret2
  exact ⟨rfl, h⟩

set_option maxHeartbeats 1000000 in
theorem frLess_ge (p0 q0 p1 q1 : Int) (w : World) (g0 : FrG p0 q0) (g1 : FrG p1 q1) (hlt : ¬ p0 * q1 < p1 * q0) : Calls Tryd.prog 54 #[.agg #[.int .i64 p0, .int .i64 q0], .agg #[.int .i64 p1, .int .i64 q1]] w (GivesB w false) := by
  obtain ⟨a1, a2, a3, a4, -⟩ := g0
  obtain ⟨b1, b2, b3, b4, -⟩ := g1
  obtain ⟨m1a, m1b⟩ := fr_mul_1e18 (a := p0) (b := q1) (by omega) (by omega) (by omega) (by omega)
  obtain ⟨m2a, m2b⟩ := fr_mul_1e18 (a := p1) (b := q0) (by omega) (by omega) (by omega) (by omega)
  have h := Below.refl w.heap.size w
  have hA := below_alloc1 w (.cells #[.int .i64 p0, .int .i64 q0] 25)
  replace h := Below.step h hA
  have hx0 := Box.new w 25 #[.int .i64 p0, .int .i64 q0]
  clear hA
  have hA := below_alloc1 (w.alloc (.cells #[.int .i64 p0, .int .i64 q0] 25)) (.cells #[.int .i64 p1, .int .i64 q1] 25)
  replace h := Below.step h hA
  replace hx0 := hx0.kept hA
  have hx1 := Box.new (w.alloc (.cells #[.int .i64 p0, .int .i64 q0] 25)) 25 #[.int .i64 p1, .int .i64 q1]
  rw [show (w.alloc (.cells #[.int .i64 p0, .int .i64 q0] 25)).heap.size = w.heap.size + 1 from by simp] at hx1
  clear hA
  go_enter Tryd.func54, Tryd.ntmps54
  go_wp2_with fail
  go_ret
  exact ⟨rfl, h⟩

set_option maxHeartbeats 1000000 in
theorem isLessS_ge (p0 q0 p1 q1 : Int) (w : World) (g0 : FrG p0 q0) (g1 : FrG p1 q1) (hlt : ¬ p0 * q1 < p1 * q0) : Calls Tryd.prog 29 #[.agg #[.int .i64 p0, .int .i64 q0], .agg #[.int .i64 p1, .int .i64 q1]] w (GivesBB w false true) := by
  have cl := fun W => frLess_ge p0 q0 p1 q1 W g0 g1 hlt
  replace cl := Lib.hid cl
  clear hlt
  have h := Below.refl w.heap.size w
  have hA := below_alloc1 w (.cells #[.int .i64 p0, .int .i64 q0] 25)
  replace h := Below.step h hA
  have hx0 := Box.new w 25 #[.int .i64 p0, .int .i64 q0]
  clear hA
  have hA := below_alloc1 (w.alloc (.cells #[.int .i64 p0, .int .i64 q0] 25)) (.cells #[.int .i64 p1, .int .i64 q1] 25)
  replace h := Below.step h hA
  replace hx0 := hx0.kept hA
  have hx1 := Box.new (w.alloc (.cells #[.int .i64 p0, .int .i64 q0] 25)) 25 #[.int .i64 p1, .int .i64 q1]
  rw [show (w.alloc (.cells #[.int .i64 p0, .int .i64 q0] 25)).heap.size = w.heap.size + 1 from by simp] at hx1
  clear hA
  go_enter Tryd.func29, Tryd.ntmps29
  go_wp2_with fail
  refine (frTwo_yes p0 q0 p1 q1 _ g0 g1).mono ?_
  rintro e w1 ⟨rfl, hb⟩
  replace h := Below.step h hb
  replace hx0 := hx0.kept hb
  replace hx1 := hx1.kept hb
  clear hb
  obtain ⟨ahx0, bhx0⟩ := hx0.two
  have lhx0 := hx0.lt
  obtain ⟨ahx1, bhx1⟩ := hx1.two
  have lhx1 := hx1.lt
  go_wp2_with fail
  refine (cl.out _).mono ?_
  rintro e w2 ⟨rfl, hb⟩
  replace h := Below.step h hb
  replace hx0 := hx0.kept hb
  replace hx1 := hx1.kept hb
  clear hb ahx0 bhx0 lhx0 ahx1 bhx1 lhx1
  obtain ⟨ahx0, bhx0⟩ := hx0.two
  have lhx0 := hx0.lt
  obtain ⟨ahx1, bhx1⟩ := hx1.two
  have lhx1 := hx1.lt
  go_wp2_with fail
  go_ret2
  exact ⟨rfl, h⟩

set_option maxHeartbeats 1000000 in
theorem isLessI_ge (p0 q0 p1 q1 : Int) (w : World) (hL : Lim w) (g0 : FrG p0 q0) (g1 : FrG p1 q1) (hlt : ¬ p0 * q1 < p1 * q0) : Calls Tryd.prog 30 #[.agg #[.int .i64 p0, .int .i64 q0], .agg #[.int .i64 p1, .int .i64 q1]] w (GivesBB w false true) := by
  have g0' := g0
  obtain ⟨a1, a2, a3, a4, -⟩ := g0'
  have g1' := g1
  obtain ⟨b1, b2, b3, b4, -⟩ := g1'
  obtain ⟨m1a, m1b⟩ := fr_mul_1e18 (a := p0) (b := q1) (by omega) (by omega) (by omega) (by omega)
  obtain ⟨m2a, m2b⟩ := fr_mul_1e18 (a := p1) (b := q0) (by omega) (by omega) (by omega) (by omega)
  have ed : decide (p0 * q1 < p1 * q0) = false := decide_eq_false hlt
  clear hlt
  have h := Below.refl w.heap.size w
  have hA := below_alloc1 w (.cells #[.int .i64 p0, .int .i64 q0] 25)
  replace h := Below.step h hA
  have hx0 := Box.new w 25 #[.int .i64 p0, .int .i64 q0]
  clear hA
  have hA := below_alloc1 (w.alloc (.cells #[.int .i64 p0, .int .i64 q0] 25)) (.cells #[.int .i64 p1, .int .i64 q1] 25)
  replace h := Below.step h hA
  replace hx0 := hx0.kept hA
  have hx1 := Box.new (w.alloc (.cells #[.int .i64 p0, .int .i64 q0] 25)) 25 #[.int .i64 p1, .int .i64 q1]
  rw [show (w.alloc (.cells #[.int .i64 p0, .int .i64 q0] 25)).heap.size = w.heap.size + 1 from by simp] at hx1
  clear hA
  go_enter Tryd.func30, Tryd.ntmps30
  go_wp2_with fail
  refine (isFractionI_yes p0 q0 _ (by exact hL.kept h) g0).mono ?_
  rintro e w1 ⟨rfl, hb⟩
  replace h := Below.step h hb
  replace hx0 := hx0.kept hb
  replace hx1 := hx1.kept hb
  clear hb
  obtain ⟨ahx0, bhx0⟩ := hx0.two
  have lhx0 := hx0.lt
  obtain ⟨ahx1, bhx1⟩ := hx1.two
  have lhx1 := hx1.lt
  go_wp2_with fail
  refine (isFractionI_yes p1 q1 _ (by exact hL.kept h) g1).mono ?_
  rintro e w2 ⟨rfl, hb⟩
  replace h := Below.step h hb
  replace hx0 := hx0.kept hb
  replace hx1 := hx1.kept hb
  clear hb ahx0 bhx0 lhx0 ahx1 bhx1 lhx1
  obtain ⟨ahx0, bhx0⟩ := hx0.two
  have lhx0 := hx0.lt
  obtain ⟨ahx1, bhx1⟩ := hx1.two
  have lhx1 := hx1.lt
  go_wp2_with fail
  go_ret2
  exact ⟨rfl, h⟩

set_option maxHeartbeats 1000000 in
theorem isLessS_no (p0 q0 p1 q1 : Int) (w : World) (g : ¬ (FrG p0 q0 ∧ FrG p1 q1)) : Calls Tryd.prog 29 #[.agg #[.int .i64 p0, .int .i64 q0], .agg #[.int .i64 p1, .int .i64 q1]] w (GivesBB w false false) := by
  have h := Below.refl w.heap.size w
  have hA := below_alloc1 w (.cells #[.int .i64 p0, .int .i64 q0] 25)
  replace h := Below.step h hA
  have hx0 := Box.new w 25 #[.int .i64 p0, .int .i64 q0]
  clear hA
  have hA := below_alloc1 (w.alloc (.cells #[.int .i64 p0, .int .i64 q0] 25)) (.cells #[.int .i64 p1, .int .i64 q1] 25)
  replace h := Below.step h hA
  replace hx0 := hx0.kept hA
  have hx1 := Box.new (w.alloc (.cells #[.int .i64 p0, .int .i64 q0] 25)) 25 #[.int .i64 p1, .int .i64 q1]
  rw [show (w.alloc (.cells #[.int .i64 p0, .int .i64 q0] 25)).heap.size = w.heap.size + 1 from by simp] at hx1
  clear hA
  go_enter Tryd.func29, Tryd.ntmps29
  go_wp2_with fail
  refine (frTwo_no p0 q0 p1 q1 _ g).mono ?_
  rintro e w1 ⟨rfl, hb⟩
  replace h := Below.step h hb
  replace hx0 := hx0.kept hb
  replace hx1 := hx1.kept hb
  clear hb
  obtain ⟨ahx0, bhx0⟩ := hx0.two
  have lhx0 := hx0.lt
  obtain ⟨ahx1, bhx1⟩ := hx1.two
  have lhx1 := hx1.lt
  go_wp2_with fail
  go_ret2
  exact ⟨rfl, h⟩

set_option maxHeartbeats 1000000 in
theorem isLessI_no0 (p0 q0 p1 q1 : Int) (w : World) (hL : Lim w) (g0 : ¬ FrG p0 q0) : Calls Tryd.prog 30 #[.agg #[.int .i64 p0, .int .i64 q0], .agg #[.int .i64 p1, .int .i64 q1]] w (GivesBB w false false) := by
  have h := Below.refl w.heap.size w
  have hA := below_alloc1 w (.cells #[.int .i64 p0, .int .i64 q0] 25)
  replace h := Below.step h hA
  have hx0 := Box.new w 25 #[.int .i64 p0, .int .i64 q0]
  clear hA
  have hA := below_alloc1 (w.alloc (.cells #[.int .i64 p0, .int .i64 q0] 25)) (.cells #[.int .i64 p1, .int .i64 q1] 25)
  replace h := Below.step h hA
  replace hx0 := hx0.kept hA
  have hx1 := Box.new (w.alloc (.cells #[.int .i64 p0, .int .i64 q0] 25)) 25 #[.int .i64 p1, .int .i64 q1]
  rw [show (w.alloc (.cells #[.int .i64 p0, .int .i64 q0] 25)).heap.size = w.heap.size + 1 from by simp] at hx1
  clear hA
  go_enter Tryd.func30, Tryd.ntmps30
  go_wp2_with fail
  refine (isFractionI_no p0 q0 _ (by exact hL.kept h) g0).mono ?_
  rintro e w1 ⟨rfl, hb⟩
  replace h := Below.step h hb
  replace hx0 := hx0.kept hb
  replace hx1 := hx1.kept hb
  clear hb
  obtain ⟨ahx0, bhx0⟩ := hx0.two
  have lhx0 := hx0.lt
  obtain ⟨ahx1, bhx1⟩ := hx1.two
  have lhx1 := hx1.lt
  go_wp2_with fail
  go_ret2
  exact ⟨rfl, h⟩

set_option maxHeartbeats 1000000 in
theorem isLessI_no1 (p0 q0 p1 q1 : Int) (w : World) (hL : Lim w) (g0 : FrG p0 q0) (g1 : ¬ FrG p1 q1) : Calls Tryd.prog 30 #[.agg #[.int .i64 p0, .int .i64 q0], .agg #[.int .i64 p1, .int .i64 q1]] w (GivesBB w false false) := by
  have h := Below.refl w.heap.size w
  have hA := below_alloc1 w (.cells #[.int .i64 p0, .int .i64 q0] 25)
  replace h := Below.step h hA
  have hx0 := Box.new w 25 #[.int .i64 p0, .int .i64 q0]
  clear hA
  have hA := below_alloc1 (w.alloc (.cells #[.int .i64 p0, .int .i64 q0] 25)) (.cells #[.int .i64 p1, .int .i64 q1] 25)
  replace h := Below.step h hA
  replace hx0 := hx0.kept hA
  have hx1 := Box.new (w.alloc (.cells #[.int .i64 p0, .int .i64 q0] 25)) 25 #[.int .i64 p1, .int .i64 q1]
  rw [show (w.alloc (.cells #[.int .i64 p0, .int .i64 q0] 25)).heap.size = w.heap.size + 1 from by simp] at hx1
  clear hA
  go_enter Tryd.func30, Tryd.ntmps30
  go_wp2_with fail
  refine (isFractionI_yes p0 q0 _ (by exact hL.kept h) g0).mono ?_
  rintro e w1 ⟨rfl, hb⟩
  replace h := Below.step h hb
  replace hx0 := hx0.kept hb
  replace hx1 := hx1.kept hb
  clear hb
  obtain ⟨ahx0, bhx0⟩ := hx0.two
  have lhx0 := hx0.lt
  obtain ⟨ahx1, bhx1⟩ := hx1.two
  have lhx1 := hx1.lt
  go_wp2_with fail
  refine (isFractionI_no p1 q1 _ (by exact hL.kept h) g1).mono ?_
  rintro e w2 ⟨rfl, hb⟩
  replace h := Below.step h hb
  replace hx0 := hx0.kept hb
  replace hx1 := hx1.kept hb
  clear hb ahx0 bhx0 lhx0 ahx1 bhx1 lhx1
  obtain ⟨ahx0, bhx0⟩ := hx0.two
  have lhx0 := hx0.lt
  obtain ⟨ahx1, bhx1⟩ := hx1.two
  have lhx1 := hx1.lt
  go_wp2_with fail
  go_ret2
  exact ⟨rfl, h⟩

theorem isLessI_no (p0 q0 p1 q1 : Int) (w : World) (hL : Lim w) (g : ¬ (FrG p0 q0 ∧ FrG p1 q1)) : Calls Tryd.prog 30 #[.agg #[.int .i64 p0, .int .i64 q0], .agg #[.int .i64 p1, .int .i64 q1]] w (GivesBB w false false) := by
  by_cases g0 : FrG p0 q0
  · exact isLessI_no1 p0 q0 p1 q1 w hL g0 (fun g1 => g ⟨g0, g1⟩)
  · exact isLessI_no0 p0 q0 p1 q1 w hL g0

theorem lawIsLess_any (p0 q0 p1 q1 : Int) (w : World) (hL : Lim w) (_ : -9223372036854775808 ≤ p0 ∧ p0 ≤ 9223372036854775807) (_ : -9223372036854775808 ≤ q0 ∧ q0 ≤ 9223372036854775807) (_ : -9223372036854775808 ≤ p1 ∧ p1 ≤ 9223372036854775807) (_ : -9223372036854775808 ≤ q1 ∧ q1 ≤ 9223372036854775807) :
    Calls Tryd.prog 9 #[.agg #[.int .i64 p0, .int .i64 q0], .agg #[.int .i64 p1, .int .i64 q1]] w fun e w' => e = .returned (.bool true) ∧ Below w.heap.size w w' := by
  by_cases g : FrG p0 q0 ∧ FrG p1 q1
  · by_cases hlt : p0 * q1 < p1 * q0
    · exact lawIsLess_core p0 q0 p1 q1 w hL true true (fun W => isLessS_lt p0 q0 p1 q1 W g.1 g.2 hlt) (fun W hL => isLessI_lt p0 q0 p1 q1 W hL g.1 g.2 hlt)
    · exact lawIsLess_core p0 q0 p1 q1 w hL false true (fun W => isLessS_ge p0 q0 p1 q1 W g.1 g.2 hlt) (fun W hL => isLessI_ge p0 q0 p1 q1 W hL g.1 g.2 hlt)
  · exact lawIsLess_core p0 q0 p1 q1 w hL false false (fun W => isLessS_no p0 q0 p1 q1 W g) (fun W hL => isLessI_no p0 q0 p1 q1 W hL g)

set_option maxHeartbeats 1000000 in
theorem frDown_neg (n d : Int) (w : World) (h0 : -4000000000000000000 ≤ n) (h1 : n ≤ 4000000000000000000) (hd : 0 < d) (hd1 : d ≤ 4000000000000000000) (hr : n.tmod d < 0) :
    Calls Tryd.prog 62 #[.int .i64 n, .int .i64 d] w fun e w' => e = .returned (.int .i64 (n / d)) ∧ w = w' := by
  have hv := Lib.hid ((floor_rest (n := n) hd).1 hr)
  obtain ⟨t0, t1⟩ := tdiv_bd (d := d) h0 h1
  have e0 : (d == 0) = false := beq_eq_false_iff_ne.2 (by omega)
  rw [hv.out]
  go_enter Tryd.func62, Tryd.ntmps62
  go_wp2
  go_ret
  exact ⟨rfl, rfl⟩

set_option maxHeartbeats 1000000 in
theorem frDown_pos (n d : Int) (w : World) (h0 : -4000000000000000000 ≤ n) (h1 : n ≤ 4000000000000000000) (hd : 0 < d) (hd1 : d ≤ 4000000000000000000) (hr : ¬ n.tmod d < 0) :
    Calls Tryd.prog 62 #[.int .i64 n, .int .i64 d] w fun e w' => e = .returned (.int .i64 (n / d)) ∧ w = w' := by
  have hv := Lib.hid ((floor_rest (n := n) hd).2 hr)
  obtain ⟨t0, t1⟩ := tdiv_bd (d := d) h0 h1
  have e0 : (d == 0) = false := beq_eq_false_iff_ne.2 (by omega)
  rw [hv.out]
  go_enter Tryd.func62, Tryd.ntmps62
  go_wp2
  go_ret
  exact ⟨rfl, rfl⟩

theorem frDown_any (n d : Int) (w : World) (h0 : -4000000000000000000 ≤ n) (h1 : n ≤ 4000000000000000000) (hd : 0 < d) (hd1 : d ≤ 4000000000000000000) :
    Calls Tryd.prog 62 #[.int .i64 n, .int .i64 d] w fun e w' => e = .returned (.int .i64 (n / d)) ∧ w = w' := by
  by_cases hr : n.tmod d < 0
  · exact frDown_neg n d w h0 h1 hd hd1 hr
  · exact frDown_pos n d w h0 h1 hd hd1 hr

set_option maxHeartbeats 1000000 in
theorem floorOf_neg (n d : Int) (w : World) (h0 : -4000000000000000000 ≤ n) (h1 : n ≤ 4000000000000000000) (hd : 0 < d) (hd1 : d ≤ 4000000000000000000) (hr : n < n.tdiv d * d) :
    Calls Tryd.prog 56 #[.int .i64 n, .int .i64 d] w fun e w' => e = .returned (.int .i64 (n / d)) ∧ w = w' := by
  have hv := Lib.hid ((floor_back (n := n) hd).1 hr)
  obtain ⟨t0, t1⟩ := tdiv_bd (d := d) h0 h1
  obtain ⟨t2, t3⟩ := tdiv_mul_bd hd h0 h1 hd1
  have e0 : (d == 0) = false := beq_eq_false_iff_ne.2 (by omega)
  rw [hv.out]
  go_enter Tryd.func56, Tryd.ntmps56
  go_wp2
  go_ret
  exact ⟨rfl, rfl⟩

set_option maxHeartbeats 1000000 in
theorem floorOf_pos (n d : Int) (w : World) (h0 : -4000000000000000000 ≤ n) (h1 : n ≤ 4000000000000000000) (hd : 0 < d) (hd1 : d ≤ 4000000000000000000) (hr : ¬ n < n.tdiv d * d) :
    Calls Tryd.prog 56 #[.int .i64 n, .int .i64 d] w fun e w' => e = .returned (.int .i64 (n / d)) ∧ w = w' := by
  have hv := Lib.hid ((floor_back (n := n) hd).2 hr)
  obtain ⟨t0, t1⟩ := tdiv_bd (d := d) h0 h1
  obtain ⟨t2, t3⟩ := tdiv_mul_bd hd h0 h1 hd1
  have e0 : (d == 0) = false := beq_eq_false_iff_ne.2 (by omega)
  rw [hv.out]
  go_enter Tryd.func56, Tryd.ntmps56
  go_wp2
  go_ret
  exact ⟨rfl, rfl⟩

theorem floorOf_any (n d : Int) (w : World) (h0 : -4000000000000000000 ≤ n) (h1 : n ≤ 4000000000000000000) (hd : 0 < d) (hd1 : d ≤ 4000000000000000000) :
    Calls Tryd.prog 56 #[.int .i64 n, .int .i64 d] w fun e w' => e = .returned (.int .i64 (n / d)) ∧ w = w' := by
  by_cases hr : n < n.tdiv d * d
  · exact floorOf_neg n d w h0 h1 hd hd1 hr
  · exact floorOf_pos n d w h0 h1 hd hd1 hr

set_option maxHeartbeats 1000000 in
theorem frFloor_any (p0 q0 : Int) (w : World) (g0 : FrG p0 q0) : Calls Tryd.prog 55 #[.agg #[.int .i64 p0, .int .i64 q0]] w (GivesI w (p0 / q0)) := by
  obtain ⟨a1, a2, a3, a4, -⟩ := g0
  have h := Below.refl w.heap.size w
  have hA := below_alloc1 w (.cells #[.int .i64 p0, .int .i64 q0] 25)
  replace h := Below.step h hA
  have hx0 := Box.new w 25 #[.int .i64 p0, .int .i64 q0]
  clear hA
  go_enter Tryd.func55, Tryd.ntmps55
  go_wp2_with fail
  refine (frDown_any p0 q0 _ (by omega) (by omega) (by omega) (by omega)).mono ?_
  rintro e w' ⟨rfl, rfl⟩
  go_wp2_with fail
  go_ret
  exact ⟨rfl, h⟩

set_option maxHeartbeats 1000000 in
theorem floorRestS_yes (p0 q0 : Int) (w : World) (g0 : FrG p0 q0) : Calls Tryd.prog 31 #[.agg #[.int .i64 p0, .int .i64 q0]] w (GivesIFB w (p0 / q0) (p0 - p0 / q0 * q0) q0 true) := by
  have g0' := g0
  obtain ⟨a1, a2, a3, a4, -⟩ := g0'
  obtain ⟨k0, k1⟩ := floor_bd (n := p0) (d := q0) (B := 1000000000) (by omega) (by omega)
  obtain ⟨m0, m1⟩ := fr_mul_1e18 (a := p0 / q0) (b := q0) (by omega) (by omega) (by omega) (by omega)
  have h := Below.refl w.heap.size w
  have hA := below_alloc1 w (.cells #[.int .i64 p0, .int .i64 q0] 25)
  replace h := Below.step h hA
  have hx0 := Box.new w 25 #[.int .i64 p0, .int .i64 q0]
  clear hA
  have hA := below_alloc1 (w.alloc (.cells #[.int .i64 p0, .int .i64 q0] 25)) (.cells #[.int .i64 0, .int .i64 0] 25)
  replace h := Below.step h hA
  replace hx0 := hx0.kept hA
  have hxr := Box.new (w.alloc (.cells #[.int .i64 p0, .int .i64 q0] 25)) 25 #[.int .i64 0, .int .i64 0]
  rw [show (w.alloc (.cells #[.int .i64 p0, .int .i64 q0] 25)).heap.size = w.heap.size + 1 from by simp] at hxr
  clear hA
  go_enter Tryd.func31, Tryd.ntmps31
  go_wp2_with fail
  refine (frGood_yes p0 q0 _ g0).mono ?_
  rintro e w1 ⟨rfl, hb⟩
  replace h := Below.step h hb
  replace hx0 := hx0.kept hb
  replace hxr := hxr.kept hb
  clear hb
  obtain ⟨ahx0, bhx0⟩ := hx0.two
  have lhx0 := hx0.lt
  obtain ⟨ahxr, bhxr⟩ := hxr.two
  have lhxr := hxr.lt
  go_wp2_with fail
  refine (frFloor_any p0 q0 _ g0).mono ?_
  rintro e w2 ⟨rfl, hb⟩
  replace h := Below.step h hb
  replace hx0 := hx0.kept hb
  replace hxr := hxr.kept hb
  clear hb ahx0 bhx0 lhx0 ahxr bhxr lhxr
  obtain ⟨ahx0, bhx0⟩ := hx0.two
  have lhx0 := hx0.lt
  obtain ⟨ahxr, bhxr⟩ := hxr.two
  have lhxr := hxr.lt
  have f0 := hxr.free 0
  have f1 := hxr.free 1
  generalize p0 / q0 = K at *
  go_wp2_with fail
  go_region
  go_wp2_with fail
  refine bodyPost_ret (v := .tuple #[.int .i64 (K), .agg #[.int .i64 (p0 - K * q0), .int .i64 (q0)], .bool true]) (by simp [results, Tryd.results31, go_sem, ahxr, bhxr]) rfl ⟨rfl, ?_⟩
  first | exact (h.setCell (by first | (simp; done) | (simp; omega)) _).setCell (by first | (simp; done) | (simp; omega)) _ | exact Below.drewN' ((h.setCell (by first | (simp; done) | (simp; omega)) _).setCell (by first | (simp; done) | (simp; omega)) _) 1

set_option maxHeartbeats 1000000 in
theorem floorRestS_no (p0 q0 : Int) (w : World) (g0 : ¬ FrG p0 q0) : Calls Tryd.prog 31 #[.agg #[.int .i64 p0, .int .i64 q0]] w (GivesIFB w 0 0 0 false) := by
  have h := Below.refl w.heap.size w
  have hA := below_alloc1 w (.cells #[.int .i64 p0, .int .i64 q0] 25)
  replace h := Below.step h hA
  have hx0 := Box.new w 25 #[.int .i64 p0, .int .i64 q0]
  clear hA
  have hA := below_alloc1 (w.alloc (.cells #[.int .i64 p0, .int .i64 q0] 25)) (.cells #[.int .i64 0, .int .i64 0] 25)
  replace h := Below.step h hA
  replace hx0 := hx0.kept hA
  have hxr := Box.new (w.alloc (.cells #[.int .i64 p0, .int .i64 q0] 25)) 25 #[.int .i64 0, .int .i64 0]
  rw [show (w.alloc (.cells #[.int .i64 p0, .int .i64 q0] 25)).heap.size = w.heap.size + 1 from by simp] at hxr
  clear hA
  go_enter Tryd.func31, Tryd.ntmps31
  go_wp2_with fail
  refine (frGood_no p0 q0 _ g0).mono ?_
  rintro e w1 ⟨rfl, hb⟩
  replace h := Below.step h hb
  replace hx0 := hx0.kept hb
  replace hxr := hxr.kept hb
  clear hb
  obtain ⟨ahx0, bhx0⟩ := hx0.two
  have lhx0 := hx0.lt
  obtain ⟨ahxr, bhxr⟩ := hxr.two
  have lhxr := hxr.lt
  have f0 := hxr.free 0
  have f1 := hxr.free 1
  go_wp2_with fail
  refine bodyPost_ret (v := .tuple #[.int .i64 (0), .agg #[.int .i64 (0), .int .i64 (0)], .bool false]) (by simp [results, Tryd.results31, go_sem, ahxr, bhxr]) rfl ⟨rfl, ?_⟩
  exact (h.setCell (by first | (simp; done) | (simp; omega)) _).setCell (by first | (simp; done) | (simp; omega)) _

set_option maxHeartbeats 1000000 in
theorem floorRestI_yes (p0 q0 : Int) (w : World) (hL : Lim w) (g0 : FrG p0 q0) : Calls Tryd.prog 32 #[.agg #[.int .i64 p0, .int .i64 q0]] w (GivesIFB w (p0 / q0) (p0 - p0 / q0 * q0) q0 true) := by
  have g0' := g0
  obtain ⟨a1, a2, a3, a4, -⟩ := g0'
  obtain ⟨k0, k1⟩ := floor_bd (n := p0) (d := q0) (B := 1000000000) (by omega) (by omega)
  obtain ⟨m0, m1⟩ := fr_mul_1e18 (a := p0 / q0) (b := q0) (by omega) (by omega) (by omega) (by omega)
  have h := Below.refl w.heap.size w
  have hA := below_alloc1 w (.cells #[.int .i64 p0, .int .i64 q0] 25)
  replace h := Below.step h hA
  have hx0 := Box.new w 25 #[.int .i64 p0, .int .i64 q0]
  clear hA
  have hA := below_alloc1 (w.alloc (.cells #[.int .i64 p0, .int .i64 q0] 25)) (.cells #[.int .i64 0, .int .i64 0] 25)
  replace h := Below.step h hA
  replace hx0 := hx0.kept hA
  have hxr := Box.new (w.alloc (.cells #[.int .i64 p0, .int .i64 q0] 25)) 25 #[.int .i64 0, .int .i64 0]
  rw [show (w.alloc (.cells #[.int .i64 p0, .int .i64 q0] 25)).heap.size = w.heap.size + 1 from by simp] at hxr
  clear hA
  go_enter Tryd.func32, Tryd.ntmps32
  go_wp2_with fail
  refine (isFractionI_yes p0 q0 _ (by exact hL.kept h) g0).mono ?_
  rintro e w1 ⟨rfl, hb⟩
  replace h := Below.step h hb
  replace hx0 := hx0.kept hb
  replace hxr := hxr.kept hb
  clear hb
  obtain ⟨ahx0, bhx0⟩ := hx0.two
  have lhx0 := hx0.lt
  obtain ⟨ahxr, bhxr⟩ := hxr.two
  have lhxr := hxr.lt
  go_wp2_with fail
  refine (floorOf_any p0 q0 _ (by omega) (by omega) (by omega) (by omega)).mono ?_
  rintro e w' ⟨rfl, rfl⟩
  have f0 := hxr.free 0
  have f1 := hxr.free 1
  generalize p0 / q0 = K at *
  go_wp2_with fail
  go_region
  go_wp2_with fail
  refine bodyPost_ret (v := .tuple #[.int .i64 (K), .agg #[.int .i64 (p0 - K * q0), .int .i64 (q0)], .bool true]) (by simp [results, Tryd.results32, go_sem, ahxr, bhxr]) rfl ⟨rfl, ?_⟩
  first | exact (h.setCell (by first | (simp; done) | (simp; omega)) _).setCell (by first | (simp; done) | (simp; omega)) _ | exact Below.drewN' ((h.setCell (by first | (simp; done) | (simp; omega)) _).setCell (by first | (simp; done) | (simp; omega)) _) 1

set_option maxHeartbeats 1000000 in
theorem floorRestI_no (p0 q0 : Int) (w : World) (hL : Lim w) (g0 : ¬ FrG p0 q0) : Calls Tryd.prog 32 #[.agg #[.int .i64 p0, .int .i64 q0]] w (GivesIFB w 0 0 0 false) := by
  have h := Below.refl w.heap.size w
  have hA := below_alloc1 w (.cells #[.int .i64 p0, .int .i64 q0] 25)
  replace h := Below.step h hA
  have hx0 := Box.new w 25 #[.int .i64 p0, .int .i64 q0]
  clear hA
  have hA := below_alloc1 (w.alloc (.cells #[.int .i64 p0, .int .i64 q0] 25)) (.cells #[.int .i64 0, .int .i64 0] 25)
  replace h := Below.step h hA
  replace hx0 := hx0.kept hA
  have hxr := Box.new (w.alloc (.cells #[.int .i64 p0, .int .i64 q0] 25)) 25 #[.int .i64 0, .int .i64 0]
  rw [show (w.alloc (.cells #[.int .i64 p0, .int .i64 q0] 25)).heap.size = w.heap.size + 1 from by simp] at hxr
  clear hA
  go_enter Tryd.func32, Tryd.ntmps32
  go_wp2_with fail
  refine (isFractionI_no p0 q0 _ (by exact hL.kept h) g0).mono ?_
  rintro e w1 ⟨rfl, hb⟩
  replace h := Below.step h hb
  replace hx0 := hx0.kept hb
  replace hxr := hxr.kept hb
  clear hb
  obtain ⟨ahx0, bhx0⟩ := hx0.two
  have lhx0 := hx0.lt
  obtain ⟨ahxr, bhxr⟩ := hxr.two
  have lhxr := hxr.lt
  have f0 := hxr.free 0
  have f1 := hxr.free 1
  go_wp2_with fail
  refine bodyPost_ret (v := .tuple #[.int .i64 (0), .agg #[.int .i64 (0), .int .i64 (0)], .bool false]) (by simp [results, Tryd.results32, go_sem, ahxr, bhxr]) rfl ⟨rfl, ?_⟩
  exact (h.setCell (by first | (simp; done) | (simp; omega)) _).setCell (by first | (simp; done) | (simp; omega)) _

theorem lawFloorAndRest_any (p0 q0 : Int) (w : World) (hL : Lim w) (_ : -9223372036854775808 ≤ p0 ∧ p0 ≤ 9223372036854775807) (_ : -9223372036854775808 ≤ q0 ∧ q0 ≤ 9223372036854775807) :
    Calls Tryd.prog 10 #[.agg #[.int .i64 p0, .int .i64 q0]] w fun e w' => e = .returned (.bool true) ∧ Below w.heap.size w w' := by
  by_cases g : FrG p0 q0
  · exact lawFloorAndRest_core p0 q0 w hL _ _ _ true (fun W => floorRestS_yes p0 q0 W g) (fun W hL => floorRestI_yes p0 q0 W hL g)
  · exact lawFloorAndRest_core p0 q0 w hL 0 0 0 false (fun W => floorRestS_no p0 q0 W g) (fun W hL => floorRestI_no p0 q0 W hL g)

set_option maxHeartbeats 1000000 in
theorem heightS_pp (p0 q0 : Int) (w : World) (g0 : FrG p0 q0) (c1 : 0 ≤ p0) (c2 : q0 < p0) : Calls Tryd.prog 33 #[.agg #[.int .i64 p0, .int .i64 q0]] w (GivesIB w (p0) true) := by
  have g0' := g0
  obtain ⟨a1, a2, a3, a4, -⟩ := g0'
  have h := Below.refl w.heap.size w
  have hA := below_alloc1 w (.cells #[.int .i64 p0, .int .i64 q0] 25)
  replace h := Below.step h hA
  have hx0 := Box.new w 25 #[.int .i64 p0, .int .i64 q0]
  clear hA
  have ea := fun W => l1Abs_any p0 W (by omega) (by omega)
  rw [show ((p0.natAbs : Nat) : Int) = p0 from by omega] at ea
  replace ea := Lib.hid ea
  have eb := fun W => l1Most_left (p0) q0 W (by omega)
  replace eb := Lib.hid eb
  go_enter Tryd.func33, Tryd.ntmps33
  go_wp2_with fail
  refine (frGood_yes p0 q0 _ g0).mono ?_
  rintro e w1 ⟨rfl, hb⟩
  replace h := Below.step h hb
  replace hx0 := hx0.kept hb
  clear hb
  obtain ⟨ahx0, bhx0⟩ := hx0.two
  have lhx0 := hx0.lt
  go_wp2_with fail
  go_quiet ((first | (go_at_call 58; exact quiet_left (ea.out _)) | (go_at_call 57; exact quiet_left (eb.out _))))
  go_wp2_with fail
  go_ret2
  exact ⟨rfl, Below.drewN' h _⟩

set_option maxHeartbeats 1000000 in
theorem heightS_pq (p0 q0 : Int) (w : World) (g0 : FrG p0 q0) (c1 : 0 ≤ p0) (c2 : p0 ≤ q0) : Calls Tryd.prog 33 #[.agg #[.int .i64 p0, .int .i64 q0]] w (GivesIB w (q0) true) := by
  have g0' := g0
  obtain ⟨a1, a2, a3, a4, -⟩ := g0'
  have h := Below.refl w.heap.size w
  have hA := below_alloc1 w (.cells #[.int .i64 p0, .int .i64 q0] 25)
  replace h := Below.step h hA
  have hx0 := Box.new w 25 #[.int .i64 p0, .int .i64 q0]
  clear hA
  have ea := fun W => l1Abs_any p0 W (by omega) (by omega)
  rw [show ((p0.natAbs : Nat) : Int) = p0 from by omega] at ea
  replace ea := Lib.hid ea
  have eb := fun W => l1Most_right (p0) q0 W (by omega)
  replace eb := Lib.hid eb
  go_enter Tryd.func33, Tryd.ntmps33
  go_wp2_with fail
  refine (frGood_yes p0 q0 _ g0).mono ?_
  rintro e w1 ⟨rfl, hb⟩
  replace h := Below.step h hb
  replace hx0 := hx0.kept hb
  clear hb
  obtain ⟨ahx0, bhx0⟩ := hx0.two
  have lhx0 := hx0.lt
  go_wp2_with fail
  go_quiet ((first | (go_at_call 58; exact quiet_left (ea.out _)) | (go_at_call 57; exact quiet_left (eb.out _))))
  go_wp2_with fail
  go_ret2
  exact ⟨rfl, Below.drewN' h _⟩

set_option maxHeartbeats 1000000 in
theorem heightS_nn (p0 q0 : Int) (w : World) (g0 : FrG p0 q0) (c1 : p0 < 0) (c2 : q0 < -p0) : Calls Tryd.prog 33 #[.agg #[.int .i64 p0, .int .i64 q0]] w (GivesIB w (-p0) true) := by
  have g0' := g0
  obtain ⟨a1, a2, a3, a4, -⟩ := g0'
  have h := Below.refl w.heap.size w
  have hA := below_alloc1 w (.cells #[.int .i64 p0, .int .i64 q0] 25)
  replace h := Below.step h hA
  have hx0 := Box.new w 25 #[.int .i64 p0, .int .i64 q0]
  clear hA
  have ea := fun W => l1Abs_any p0 W (by omega) (by omega)
  rw [show ((p0.natAbs : Nat) : Int) = -p0 from by omega] at ea
  replace ea := Lib.hid ea
  have eb := fun W => l1Most_left (-p0) q0 W (by omega)
  replace eb := Lib.hid eb
  go_enter Tryd.func33, Tryd.ntmps33
  go_wp2_with fail
  refine (frGood_yes p0 q0 _ g0).mono ?_
  rintro e w1 ⟨rfl, hb⟩
  replace h := Below.step h hb
  replace hx0 := hx0.kept hb
  clear hb
  obtain ⟨ahx0, bhx0⟩ := hx0.two
  have lhx0 := hx0.lt
  go_wp2_with fail
  go_quiet ((first | (go_at_call 58; exact quiet_left (ea.out _)) | (go_at_call 57; exact quiet_left (eb.out _))))
  go_wp2_with fail
  go_ret2
  exact ⟨rfl, Below.drewN' h _⟩

set_option maxHeartbeats 1000000 in
theorem heightS_nq (p0 q0 : Int) (w : World) (g0 : FrG p0 q0) (c1 : p0 < 0) (c2 : -p0 ≤ q0) : Calls Tryd.prog 33 #[.agg #[.int .i64 p0, .int .i64 q0]] w (GivesIB w (q0) true) := by
  have g0' := g0
  obtain ⟨a1, a2, a3, a4, -⟩ := g0'
  have h := Below.refl w.heap.size w
  have hA := below_alloc1 w (.cells #[.int .i64 p0, .int .i64 q0] 25)
  replace h := Below.step h hA
  have hx0 := Box.new w 25 #[.int .i64 p0, .int .i64 q0]
  clear hA
  have ea := fun W => l1Abs_any p0 W (by omega) (by omega)
  rw [show ((p0.natAbs : Nat) : Int) = -p0 from by omega] at ea
  replace ea := Lib.hid ea
  have eb := fun W => l1Most_right (-p0) q0 W (by omega)
  replace eb := Lib.hid eb
  go_enter Tryd.func33, Tryd.ntmps33
  go_wp2_with fail
  refine (frGood_yes p0 q0 _ g0).mono ?_
  rintro e w1 ⟨rfl, hb⟩
  replace h := Below.step h hb
  replace hx0 := hx0.kept hb
  clear hb
  obtain ⟨ahx0, bhx0⟩ := hx0.two
  have lhx0 := hx0.lt
  go_wp2_with fail
  go_quiet ((first | (go_at_call 58; exact quiet_left (ea.out _)) | (go_at_call 57; exact quiet_left (eb.out _))))
  go_wp2_with fail
  go_ret2
  exact ⟨rfl, Below.drewN' h _⟩

set_option maxHeartbeats 1000000 in
theorem heightS_no (p0 q0 : Int) (w : World) (g0 : ¬ FrG p0 q0) : Calls Tryd.prog 33 #[.agg #[.int .i64 p0, .int .i64 q0]] w (GivesIB w 0 false) := by
  have h := Below.refl w.heap.size w
  have hA := below_alloc1 w (.cells #[.int .i64 p0, .int .i64 q0] 25)
  replace h := Below.step h hA
  have hx0 := Box.new w 25 #[.int .i64 p0, .int .i64 q0]
  clear hA
  go_enter Tryd.func33, Tryd.ntmps33
  go_wp2_with fail
  refine (frGood_no p0 q0 _ g0).mono ?_
  rintro e w1 ⟨rfl, hb⟩
  replace h := Below.step h hb
  replace hx0 := hx0.kept hb
  clear hb
  obtain ⟨ahx0, bhx0⟩ := hx0.two
  have lhx0 := hx0.lt
  go_wp2_with fail
  go_ret2
  exact ⟨rfl, h⟩

set_option maxHeartbeats 1000000 in
theorem heightI_pp (p0 q0 : Int) (w : World) (hL : Lim w) (g0 : FrG p0 q0) (c1 : 0 ≤ p0) (c2 : q0 < p0) : Calls Tryd.prog 34 #[.agg #[.int .i64 p0, .int .i64 q0]] w (GivesIB w (p0) true) := by
  have g0' := g0
  obtain ⟨a1, a2, a3, a4, -⟩ := g0'
  have h := Below.refl w.heap.size w
  have hA := below_alloc1 w (.cells #[.int .i64 p0, .int .i64 q0] 25)
  replace h := Below.step h hA
  have hx0 := Box.new w 25 #[.int .i64 p0, .int .i64 q0]
  clear hA
  go_enter Tryd.func34, Tryd.ntmps34
  go_wp2_with fail
  refine (isFractionI_yes p0 q0 _ (by exact hL.kept h) g0).mono ?_
  rintro e w1 ⟨rfl, hb⟩
  replace h := Below.step h hb
  replace hx0 := hx0.kept hb
  clear hb
  obtain ⟨ahx0, bhx0⟩ := hx0.two
  have lhx0 := hx0.lt
  have hB := h
  go_wp2_with fail
  all_goals (first | (go_ret2; exact ⟨rfl, hB⟩) | (obtain rfl : q0 = p0 := (by omega); go_ret2; exact ⟨rfl, hB⟩))

set_option maxHeartbeats 1000000 in
theorem heightI_pq (p0 q0 : Int) (w : World) (hL : Lim w) (g0 : FrG p0 q0) (c1 : 0 ≤ p0) (c2 : p0 ≤ q0) : Calls Tryd.prog 34 #[.agg #[.int .i64 p0, .int .i64 q0]] w (GivesIB w (q0) true) := by
  have g0' := g0
  obtain ⟨a1, a2, a3, a4, -⟩ := g0'
  have h := Below.refl w.heap.size w
  have hA := below_alloc1 w (.cells #[.int .i64 p0, .int .i64 q0] 25)
  replace h := Below.step h hA
  have hx0 := Box.new w 25 #[.int .i64 p0, .int .i64 q0]
  clear hA
  go_enter Tryd.func34, Tryd.ntmps34
  go_wp2_with fail
  refine (isFractionI_yes p0 q0 _ (by exact hL.kept h) g0).mono ?_
  rintro e w1 ⟨rfl, hb⟩
  replace h := Below.step h hb
  replace hx0 := hx0.kept hb
  clear hb
  obtain ⟨ahx0, bhx0⟩ := hx0.two
  have lhx0 := hx0.lt
  have hB := h
  go_wp2_with fail
  all_goals (first | (go_ret2; exact ⟨rfl, hB⟩) | (obtain rfl : q0 = p0 := (by omega); go_ret2; exact ⟨rfl, hB⟩))

set_option maxHeartbeats 1000000 in
theorem heightI_nn (p0 q0 : Int) (w : World) (hL : Lim w) (g0 : FrG p0 q0) (c1 : p0 < 0) (c2 : q0 < -p0) : Calls Tryd.prog 34 #[.agg #[.int .i64 p0, .int .i64 q0]] w (GivesIB w (-p0) true) := by
  have g0' := g0
  obtain ⟨a1, a2, a3, a4, -⟩ := g0'
  have h := Below.refl w.heap.size w
  have hA := below_alloc1 w (.cells #[.int .i64 p0, .int .i64 q0] 25)
  replace h := Below.step h hA
  have hx0 := Box.new w 25 #[.int .i64 p0, .int .i64 q0]
  clear hA
  go_enter Tryd.func34, Tryd.ntmps34
  go_wp2_with fail
  refine (isFractionI_yes p0 q0 _ (by exact hL.kept h) g0).mono ?_
  rintro e w1 ⟨rfl, hb⟩
  replace h := Below.step h hb
  replace hx0 := hx0.kept hb
  clear hb
  obtain ⟨ahx0, bhx0⟩ := hx0.two
  have lhx0 := hx0.lt
  have hB := h
  go_wp2_with fail
  all_goals (first | (go_ret2; exact ⟨rfl, hB⟩) | (obtain rfl : q0 = -p0 := (by omega); go_ret2; exact ⟨rfl, hB⟩))

set_option maxHeartbeats 1000000 in
theorem heightI_nq (p0 q0 : Int) (w : World) (hL : Lim w) (g0 : FrG p0 q0) (c1 : p0 < 0) (c2 : -p0 ≤ q0) : Calls Tryd.prog 34 #[.agg #[.int .i64 p0, .int .i64 q0]] w (GivesIB w (q0) true) := by
  have g0' := g0
  obtain ⟨a1, a2, a3, a4, -⟩ := g0'
  have h := Below.refl w.heap.size w
  have hA := below_alloc1 w (.cells #[.int .i64 p0, .int .i64 q0] 25)
  replace h := Below.step h hA
  have hx0 := Box.new w 25 #[.int .i64 p0, .int .i64 q0]
  clear hA
  go_enter Tryd.func34, Tryd.ntmps34
  go_wp2_with fail
  refine (isFractionI_yes p0 q0 _ (by exact hL.kept h) g0).mono ?_
  rintro e w1 ⟨rfl, hb⟩
  replace h := Below.step h hb
  replace hx0 := hx0.kept hb
  clear hb
  obtain ⟨ahx0, bhx0⟩ := hx0.two
  have lhx0 := hx0.lt
  have hB := h
  go_wp2_with fail
  all_goals (first | (go_ret2; exact ⟨rfl, hB⟩) | (obtain rfl : q0 = -p0 := (by omega); go_ret2; exact ⟨rfl, hB⟩))

set_option maxHeartbeats 1000000 in
theorem heightI_no (p0 q0 : Int) (w : World) (hL : Lim w) (g0 : ¬ FrG p0 q0) : Calls Tryd.prog 34 #[.agg #[.int .i64 p0, .int .i64 q0]] w (GivesIB w 0 false) := by
  have h := Below.refl w.heap.size w
  have hA := below_alloc1 w (.cells #[.int .i64 p0, .int .i64 q0] 25)
  replace h := Below.step h hA
  have hx0 := Box.new w 25 #[.int .i64 p0, .int .i64 q0]
  clear hA
  go_enter Tryd.func34, Tryd.ntmps34
  go_wp2_with fail
  refine (isFractionI_no p0 q0 _ (by exact hL.kept h) g0).mono ?_
  rintro e w1 ⟨rfl, hb⟩
  replace h := Below.step h hb
  replace hx0 := hx0.kept hb
  clear hb
  obtain ⟨ahx0, bhx0⟩ := hx0.two
  have lhx0 := hx0.lt
  go_wp2_with fail
  go_ret2
  exact ⟨rfl, h⟩

theorem lawFractionHeight_any (p0 q0 : Int) (w : World) (hL : Lim w) (_ : -9223372036854775808 ≤ p0 ∧ p0 ≤ 9223372036854775807) (_ : -9223372036854775808 ≤ q0 ∧ q0 ≤ 9223372036854775807) :
    Calls Tryd.prog 11 #[.agg #[.int .i64 p0, .int .i64 q0]] w fun e w' => e = .returned (.bool true) ∧ Below w.heap.size w w' := by
  by_cases g : FrG p0 q0
  · by_cases c1 : 0 ≤ p0
    · by_cases c2 : q0 < p0
      · exact lawFractionHeight_core p0 q0 w hL _ true (fun W => heightS_pp p0 q0 W g c1 c2) (fun W hL => heightI_pp p0 q0 W hL g c1 c2)
      · exact lawFractionHeight_core p0 q0 w hL _ true (fun W => heightS_pq p0 q0 W g c1 (by omega)) (fun W hL => heightI_pq p0 q0 W hL g c1 (by omega))
    · by_cases c2 : q0 < -p0
      · exact lawFractionHeight_core p0 q0 w hL _ true (fun W => heightS_nn p0 q0 W g (by omega) c2) (fun W hL => heightI_nn p0 q0 W hL g (by omega) c2)
      · exact lawFractionHeight_core p0 q0 w hL _ true (fun W => heightS_nq p0 q0 W g (by omega) (by omega)) (fun W hL => heightI_nq p0 q0 W hL g (by omega) (by omega))
  · exact lawFractionHeight_core p0 q0 w hL 0 false (fun W => heightS_no p0 q0 W g) (fun W hL => heightI_no p0 q0 W hL g)
end Go.Proofs.YteolfmhihnpjpaaDoor
