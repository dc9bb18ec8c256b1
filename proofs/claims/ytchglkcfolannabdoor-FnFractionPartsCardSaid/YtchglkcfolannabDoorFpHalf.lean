/- Floor, height, order (cut out of XFrHalf). -/
import Derived.Test.YtchglkcfolannabDoorFpOps
namespace Go.Proofs.YtchglkcfolannabDoor
open Go.RowKit Go.Joins

theorem ret_int' {k : IntKind} {a b : Int} (h : a = b) : Ending.returned (.int k a) = .returned (.int k b) := by rw [h]

set_option maxHeartbeats 1000000 in
theorem frLess_lt (p0 q0 p1 q1 : Int) (w : World) (g0 : FrG p0 q0) (g1 : FrG p1 q1) (hlt : p0 * q1 < p1 * q0) : Calls Tryd.prog 42 #[.agg #[.int .i64 p0, .int .i64 q0], .agg #[.int .i64 p1, .int .i64 q1]] w (GivesB w true) := by
  obtain ⟨a1, a2, a3, a4, -⟩ := g0
  obtain ⟨b1, b2, b3, b4, -⟩ := g1
  obtain ⟨m1a, m1b⟩ := fr_mul_1e18 (a := p0) (b := q1) (by omega) (by omega) (by omega) (by omega)
  obtain ⟨m2a, m2b⟩ := fr_mul_1e18 (a := p1) (b := q0) (by omega) (by omega) (by omega) (by omega)
  have h := Below.refl w.heap.size w
  have hA := below_alloc1 w (.cells #[.int .i64 p0, .int .i64 q0] 24)
  replace h := Below.step h hA
  have hx0 := Box.new w 24 #[.int .i64 p0, .int .i64 q0]
  clear hA
  have hA := below_alloc1 (w.alloc (.cells #[.int .i64 p0, .int .i64 q0] 24)) (.cells #[.int .i64 p1, .int .i64 q1] 24)
  replace h := Below.step h hA
  replace hx0 := hx0.kept hA
  have hx1 := Box.new (w.alloc (.cells #[.int .i64 p0, .int .i64 q0] 24)) 24 #[.int .i64 p1, .int .i64 q1]
  rw [show (w.alloc (.cells #[.int .i64 p0, .int .i64 q0] 24)).heap.size = w.heap.size + 1 from by simp] at hx1
  clear hA
  go_enter Tryd.func42, Tryd.ntmps42
  go_wp2_with fail
  go_ret
  exact ⟨rfl, h⟩

set_option maxHeartbeats 1000000 in
theorem isLessI_lt (p0 q0 p1 q1 : Int) (w : World) (hL : Lim w) (g0 : FrG p0 q0) (g1 : FrG p1 q1) (hlt : p0 * q1 < p1 * q0) : Calls Tryd.prog 43 #[.agg #[.int .i64 p0, .int .i64 q0], .agg #[.int .i64 p1, .int .i64 q1]] w (GivesBB w true true) := by
  have g0' := g0
  obtain ⟨a1, a2, a3, a4, -⟩ := g0'
  have g1' := g1
  obtain ⟨b1, b2, b3, b4, -⟩ := g1'
  obtain ⟨m1a, m1b⟩ := fr_mul_1e18 (a := p0) (b := q1) (by omega) (by omega) (by omega) (by omega)
  obtain ⟨m2a, m2b⟩ := fr_mul_1e18 (a := p1) (b := q0) (by omega) (by omega) (by omega) (by omega)
  have ed : decide (p0 * q1 < p1 * q0) = true := decide_eq_true hlt
  clear hlt
  have h := Below.refl w.heap.size w
  have hA := below_alloc1 w (.cells #[.int .i64 p0, .int .i64 q0] 24)
  replace h := Below.step h hA
  have hx0 := Box.new w 24 #[.int .i64 p0, .int .i64 q0]
  clear hA
  have hA := below_alloc1 (w.alloc (.cells #[.int .i64 p0, .int .i64 q0] 24)) (.cells #[.int .i64 p1, .int .i64 q1] 24)
  replace h := Below.step h hA
  replace hx0 := hx0.kept hA
  have hx1 := Box.new (w.alloc (.cells #[.int .i64 p0, .int .i64 q0] 24)) 24 #[.int .i64 p1, .int .i64 q1]
  rw [show (w.alloc (.cells #[.int .i64 p0, .int .i64 q0] 24)).heap.size = w.heap.size + 1 from by simp] at hx1
  clear hA
  go_enter Tryd.func43, Tryd.ntmps43
  go_wp2_with fail
  refine (isFractionI_yes p0 q0 _ (by exact hL.kept h) g0).mono ?_
  rintro e w1 ⟨rfl, hb⟩
  replace h := Below.step h hb
  replace hx0 := hx0.kept hb
  replace hx1 := hx1.kept hb
  clear hb
  obtain ⟨ahx0, bhx0⟩ := hx0.two
  have lhx0 := hx0.lt
  obtain ⟨ahx1, bhx1⟩ := hx1.two
  have lhx1 := hx1.lt
  go_wp2_with fail
  refine (isFractionI_yes p1 q1 _ (by exact hL.kept h) g1).mono ?_
  rintro e w2 ⟨rfl, hb⟩
  replace h := Below.step h hb
  replace hx0 := hx0.kept hb
  replace hx1 := hx1.kept hb
  clear hb ahx0 bhx0 lhx0 ahx1 bhx1 lhx1
  obtain ⟨ahx0, bhx0⟩ := hx0.two
  have lhx0 := hx0.lt
  obtain ⟨ahx1, bhx1⟩ := hx1.two
  have lhx1 := hx1.lt
  go_wp2_with fail
  go_ret2
  exact ⟨rfl, h⟩

set_option maxHeartbeats 1000000 in
theorem frLess_ge (p0 q0 p1 q1 : Int) (w : World) (g0 : FrG p0 q0) (g1 : FrG p1 q1) (hlt : ¬ p0 * q1 < p1 * q0) : Calls Tryd.prog 42 #[.agg #[.int .i64 p0, .int .i64 q0], .agg #[.int .i64 p1, .int .i64 q1]] w (GivesB w false) := by
  obtain ⟨a1, a2, a3, a4, -⟩ := g0
  obtain ⟨b1, b2, b3, b4, -⟩ := g1
  obtain ⟨m1a, m1b⟩ := fr_mul_1e18 (a := p0) (b := q1) (by omega) (by omega) (by omega) (by omega)
  obtain ⟨m2a, m2b⟩ := fr_mul_1e18 (a := p1) (b := q0) (by omega) (by omega) (by omega) (by omega)
  have h := Below.refl w.heap.size w
  have hA := below_alloc1 w (.cells #[.int .i64 p0, .int .i64 q0] 24)
  replace h := Below.step h hA
  have hx0 := Box.new w 24 #[.int .i64 p0, .int .i64 q0]
  clear hA
  have hA := below_alloc1 (w.alloc (.cells #[.int .i64 p0, .int .i64 q0] 24)) (.cells #[.int .i64 p1, .int .i64 q1] 24)
  replace h := Below.step h hA
  replace hx0 := hx0.kept hA
  have hx1 := Box.new (w.alloc (.cells #[.int .i64 p0, .int .i64 q0] 24)) 24 #[.int .i64 p1, .int .i64 q1]
  rw [show (w.alloc (.cells #[.int .i64 p0, .int .i64 q0] 24)).heap.size = w.heap.size + 1 from by simp] at hx1
  clear hA
  go_enter Tryd.func42, Tryd.ntmps42
  go_wp2_with fail
  go_ret
  exact ⟨rfl, h⟩

set_option maxHeartbeats 1000000 in
theorem isLessI_ge (p0 q0 p1 q1 : Int) (w : World) (hL : Lim w) (g0 : FrG p0 q0) (g1 : FrG p1 q1) (hlt : ¬ p0 * q1 < p1 * q0) : Calls Tryd.prog 43 #[.agg #[.int .i64 p0, .int .i64 q0], .agg #[.int .i64 p1, .int .i64 q1]] w (GivesBB w false true) := by
  have g0' := g0
  obtain ⟨a1, a2, a3, a4, -⟩ := g0'
  have g1' := g1
  obtain ⟨b1, b2, b3, b4, -⟩ := g1'
  obtain ⟨m1a, m1b⟩ := fr_mul_1e18 (a := p0) (b := q1) (by omega) (by omega) (by omega) (by omega)
  obtain ⟨m2a, m2b⟩ := fr_mul_1e18 (a := p1) (b := q0) (by omega) (by omega) (by omega) (by omega)
  have ed : decide (p0 * q1 < p1 * q0) = false := decide_eq_false hlt
  clear hlt
  have h := Below.refl w.heap.size w
  have hA := below_alloc1 w (.cells #[.int .i64 p0, .int .i64 q0] 24)
  replace h := Below.step h hA
  have hx0 := Box.new w 24 #[.int .i64 p0, .int .i64 q0]
  clear hA
  have hA := below_alloc1 (w.alloc (.cells #[.int .i64 p0, .int .i64 q0] 24)) (.cells #[.int .i64 p1, .int .i64 q1] 24)
  replace h := Below.step h hA
  replace hx0 := hx0.kept hA
  have hx1 := Box.new (w.alloc (.cells #[.int .i64 p0, .int .i64 q0] 24)) 24 #[.int .i64 p1, .int .i64 q1]
  rw [show (w.alloc (.cells #[.int .i64 p0, .int .i64 q0] 24)).heap.size = w.heap.size + 1 from by simp] at hx1
  clear hA
  go_enter Tryd.func43, Tryd.ntmps43
  go_wp2_with fail
  refine (isFractionI_yes p0 q0 _ (by exact hL.kept h) g0).mono ?_
  rintro e w1 ⟨rfl, hb⟩
  replace h := Below.step h hb
  replace hx0 := hx0.kept hb
  replace hx1 := hx1.kept hb
  clear hb
  obtain ⟨ahx0, bhx0⟩ := hx0.two
  have lhx0 := hx0.lt
  obtain ⟨ahx1, bhx1⟩ := hx1.two
  have lhx1 := hx1.lt
  go_wp2_with fail
  refine (isFractionI_yes p1 q1 _ (by exact hL.kept h) g1).mono ?_
  rintro e w2 ⟨rfl, hb⟩
  replace h := Below.step h hb
  replace hx0 := hx0.kept hb
  replace hx1 := hx1.kept hb
  clear hb ahx0 bhx0 lhx0 ahx1 bhx1 lhx1
  obtain ⟨ahx0, bhx0⟩ := hx0.two
  have lhx0 := hx0.lt
  obtain ⟨ahx1, bhx1⟩ := hx1.two
  have lhx1 := hx1.lt
  go_wp2_with fail
  go_ret2
  exact ⟨rfl, h⟩

set_option maxHeartbeats 1000000 in
theorem isLessI_no0 (p0 q0 p1 q1 : Int) (w : World) (hL : Lim w) (g0 : ¬ FrG p0 q0) : Calls Tryd.prog 43 #[.agg #[.int .i64 p0, .int .i64 q0], .agg #[.int .i64 p1, .int .i64 q1]] w (GivesBB w false false) := by
  have h := Below.refl w.heap.size w
  have hA := below_alloc1 w (.cells #[.int .i64 p0, .int .i64 q0] 24)
  replace h := Below.step h hA
  have hx0 := Box.new w 24 #[.int .i64 p0, .int .i64 q0]
  clear hA
  have hA := below_alloc1 (w.alloc (.cells #[.int .i64 p0, .int .i64 q0] 24)) (.cells #[.int .i64 p1, .int .i64 q1] 24)
  replace h := Below.step h hA
  replace hx0 := hx0.kept hA
  have hx1 := Box.new (w.alloc (.cells #[.int .i64 p0, .int .i64 q0] 24)) 24 #[.int .i64 p1, .int .i64 q1]
  rw [show (w.alloc (.cells #[.int .i64 p0, .int .i64 q0] 24)).heap.size = w.heap.size + 1 from by simp] at hx1
  clear hA
  go_enter Tryd.func43, Tryd.ntmps43
  go_wp2_with fail
  refine (isFractionI_no p0 q0 _ (by exact hL.kept h) g0).mono ?_
  rintro e w1 ⟨rfl, hb⟩
  replace h := Below.step h hb
  replace hx0 := hx0.kept hb
  replace hx1 := hx1.kept hb
  clear hb
  obtain ⟨ahx0, bhx0⟩ := hx0.two
  have lhx0 := hx0.lt
  obtain ⟨ahx1, bhx1⟩ := hx1.two
  have lhx1 := hx1.lt
  go_wp2_with fail
  go_ret2
  exact ⟨rfl, h⟩

set_option maxHeartbeats 1000000 in
theorem isLessI_no1 (p0 q0 p1 q1 : Int) (w : World) (hL : Lim w) (g0 : FrG p0 q0) (g1 : ¬ FrG p1 q1) : Calls Tryd.prog 43 #[.agg #[.int .i64 p0, .int .i64 q0], .agg #[.int .i64 p1, .int .i64 q1]] w (GivesBB w false false) := by
  have h := Below.refl w.heap.size w
  have hA := below_alloc1 w (.cells #[.int .i64 p0, .int .i64 q0] 24)
  replace h := Below.step h hA
  have hx0 := Box.new w 24 #[.int .i64 p0, .int .i64 q0]
  clear hA
  have hA := below_alloc1 (w.alloc (.cells #[.int .i64 p0, .int .i64 q0] 24)) (.cells #[.int .i64 p1, .int .i64 q1] 24)
  replace h := Below.step h hA
  replace hx0 := hx0.kept hA
  have hx1 := Box.new (w.alloc (.cells #[.int .i64 p0, .int .i64 q0] 24)) 24 #[.int .i64 p1, .int .i64 q1]
  rw [show (w.alloc (.cells #[.int .i64 p0, .int .i64 q0] 24)).heap.size = w.heap.size + 1 from by simp] at hx1
  clear hA
  go_enter Tryd.func43, Tryd.ntmps43
  go_wp2_with fail
  refine (isFractionI_yes p0 q0 _ (by exact hL.kept h) g0).mono ?_
  rintro e w1 ⟨rfl, hb⟩
  replace h := Below.step h hb
  replace hx0 := hx0.kept hb
  replace hx1 := hx1.kept hb
  clear hb
  obtain ⟨ahx0, bhx0⟩ := hx0.two
  have lhx0 := hx0.lt
  obtain ⟨ahx1, bhx1⟩ := hx1.two
  have lhx1 := hx1.lt
  go_wp2_with fail
  refine (isFractionI_no p1 q1 _ (by exact hL.kept h) g1).mono ?_
  rintro e w2 ⟨rfl, hb⟩
  replace h := Below.step h hb
  replace hx0 := hx0.kept hb
  replace hx1 := hx1.kept hb
  clear hb ahx0 bhx0 lhx0 ahx1 bhx1 lhx1
  obtain ⟨ahx0, bhx0⟩ := hx0.two
  have lhx0 := hx0.lt
  obtain ⟨ahx1, bhx1⟩ := hx1.two
  have lhx1 := hx1.lt
  go_wp2_with fail
  go_ret2
  exact ⟨rfl, h⟩

theorem isLessI_no (p0 q0 p1 q1 : Int) (w : World) (hL : Lim w) (g : ¬ (FrG p0 q0 ∧ FrG p1 q1)) : Calls Tryd.prog 43 #[.agg #[.int .i64 p0, .int .i64 q0], .agg #[.int .i64 p1, .int .i64 q1]] w (GivesBB w false false) := by
  by_cases g0 : FrG p0 q0
  · exact isLessI_no1 p0 q0 p1 q1 w hL g0 (fun g1 => g ⟨g0, g1⟩)
  · exact isLessI_no0 p0 q0 p1 q1 w hL g0

set_option maxHeartbeats 1000000 in
theorem frDown_neg (n d : Int) (w : World) (h0 : -4000000000000000000 ≤ n) (h1 : n ≤ 4000000000000000000) (hd : 0 < d) (hd1 : d ≤ 4000000000000000000) (hr : n.tmod d < 0) :
    Calls Tryd.prog 44 #[.int .i64 n, .int .i64 d] w fun e w' => e = .returned (.int .i64 (n / d)) ∧ w = w' := by
  have hv := Lib.hid ((floor_rest (n := n) hd).1 hr)
  obtain ⟨t0, t1⟩ := tdiv_bd (d := d) h0 h1
  have e0 : (d == 0) = false := beq_eq_false_iff_ne.2 (by omega)
  rw [hv.out]
  go_enter Tryd.func44, Tryd.ntmps44
  go_wp2
  go_ret
  exact ⟨rfl, rfl⟩

set_option maxHeartbeats 1000000 in
theorem frDown_pos (n d : Int) (w : World) (h0 : -4000000000000000000 ≤ n) (h1 : n ≤ 4000000000000000000) (hd : 0 < d) (hd1 : d ≤ 4000000000000000000) (hr : ¬ n.tmod d < 0) :
    Calls Tryd.prog 44 #[.int .i64 n, .int .i64 d] w fun e w' => e = .returned (.int .i64 (n / d)) ∧ w = w' := by
  have hv := Lib.hid ((floor_rest (n := n) hd).2 hr)
  obtain ⟨t0, t1⟩ := tdiv_bd (d := d) h0 h1
  have e0 : (d == 0) = false := beq_eq_false_iff_ne.2 (by omega)
  rw [hv.out]
  go_enter Tryd.func44, Tryd.ntmps44
  go_wp2
  go_ret
  exact ⟨rfl, rfl⟩

theorem frDown_any (n d : Int) (w : World) (h0 : -4000000000000000000 ≤ n) (h1 : n ≤ 4000000000000000000) (hd : 0 < d) (hd1 : d ≤ 4000000000000000000) :
    Calls Tryd.prog 44 #[.int .i64 n, .int .i64 d] w fun e w' => e = .returned (.int .i64 (n / d)) ∧ w = w' := by
  by_cases hr : n.tmod d < 0
  · exact frDown_neg n d w h0 h1 hd hd1 hr
  · exact frDown_pos n d w h0 h1 hd hd1 hr

set_option maxHeartbeats 1000000 in
theorem floorOf_neg (n d : Int) (w : World) (h0 : -4000000000000000000 ≤ n) (h1 : n ≤ 4000000000000000000) (hd : 0 < d) (hd1 : d ≤ 4000000000000000000) (hr : n < n.tdiv d * d) :
    Calls Tryd.prog 25 #[.int .i64 n, .int .i64 d] w fun e w' => e = .returned (.int .i64 (n / d)) ∧ w = w' := by
  have hv := Lib.hid ((floor_back (n := n) hd).1 hr)
  obtain ⟨t0, t1⟩ := tdiv_bd (d := d) h0 h1
  obtain ⟨t2, t3⟩ := tdiv_mul_bd hd h0 h1 hd1
  have e0 : (d == 0) = false := beq_eq_false_iff_ne.2 (by omega)
  rw [hv.out]
  go_enter Tryd.func25, Tryd.ntmps25
  go_wp2
  go_ret
  exact ⟨rfl, rfl⟩

set_option maxHeartbeats 1000000 in
theorem floorOf_pos (n d : Int) (w : World) (h0 : -4000000000000000000 ≤ n) (h1 : n ≤ 4000000000000000000) (hd : 0 < d) (hd1 : d ≤ 4000000000000000000) (hr : ¬ n < n.tdiv d * d) :
    Calls Tryd.prog 25 #[.int .i64 n, .int .i64 d] w fun e w' => e = .returned (.int .i64 (n / d)) ∧ w = w' := by
  have hv := Lib.hid ((floor_back (n := n) hd).2 hr)
  obtain ⟨t0, t1⟩ := tdiv_bd (d := d) h0 h1
  obtain ⟨t2, t3⟩ := tdiv_mul_bd hd h0 h1 hd1
  have e0 : (d == 0) = false := beq_eq_false_iff_ne.2 (by omega)
  rw [hv.out]
  go_enter Tryd.func25, Tryd.ntmps25
  go_wp2
  go_ret
  exact ⟨rfl, rfl⟩

theorem floorOf_any (n d : Int) (w : World) (h0 : -4000000000000000000 ≤ n) (h1 : n ≤ 4000000000000000000) (hd : 0 < d) (hd1 : d ≤ 4000000000000000000) :
    Calls Tryd.prog 25 #[.int .i64 n, .int .i64 d] w fun e w' => e = .returned (.int .i64 (n / d)) ∧ w = w' := by
  by_cases hr : n < n.tdiv d * d
  · exact floorOf_neg n d w h0 h1 hd hd1 hr
  · exact floorOf_pos n d w h0 h1 hd hd1 hr

set_option maxHeartbeats 1000000 in
theorem frFloor_any (p0 q0 : Int) (w : World) (g0 : FrG p0 q0) : Calls Tryd.prog 27 #[.agg #[.int .i64 p0, .int .i64 q0]] w (GivesI w (p0 / q0)) := by
  obtain ⟨a1, a2, a3, a4, -⟩ := g0
  have h := Below.refl w.heap.size w
  have hA := below_alloc1 w (.cells #[.int .i64 p0, .int .i64 q0] 24)
  replace h := Below.step h hA
  have hx0 := Box.new w 24 #[.int .i64 p0, .int .i64 q0]
  clear hA
  go_enter Tryd.func27, Tryd.ntmps27
  go_wp2_with fail
  refine (frDown_any p0 q0 _ (by omega) (by omega) (by omega) (by omega)).mono ?_
  rintro e w' ⟨rfl, rfl⟩
  go_wp2_with fail
  go_ret
  exact ⟨rfl, h⟩

set_option maxHeartbeats 1000000 in
theorem floorRestS_yes (p0 q0 : Int) (w : World) (g0 : FrG p0 q0) : Calls Tryd.prog 6 #[.agg #[.int .i64 p0, .int .i64 q0]] w (GivesIFB w (p0 / q0) (p0 - p0 / q0 * q0) q0 true) := by
  have g0' := g0
  obtain ⟨a1, a2, a3, a4, -⟩ := g0'
  obtain ⟨k0, k1⟩ := floor_bd (n := p0) (d := q0) (B := 1000000000) (by omega) (by omega)
  obtain ⟨m0, m1⟩ := fr_mul_1e18 (a := p0 / q0) (b := q0) (by omega) (by omega) (by omega) (by omega)
  have h := Below.refl w.heap.size w
  have hA := below_alloc1 w (.cells #[.int .i64 p0, .int .i64 q0] 24)
  replace h := Below.step h hA
  have hx0 := Box.new w 24 #[.int .i64 p0, .int .i64 q0]
  clear hA
  have hA := below_alloc1 (w.alloc (.cells #[.int .i64 p0, .int .i64 q0] 24)) (.cells #[.int .i64 0, .int .i64 0] 24)
  replace h := Below.step h hA
  replace hx0 := hx0.kept hA
  have hxr := Box.new (w.alloc (.cells #[.int .i64 p0, .int .i64 q0] 24)) 24 #[.int .i64 0, .int .i64 0]
  rw [show (w.alloc (.cells #[.int .i64 p0, .int .i64 q0] 24)).heap.size = w.heap.size + 1 from by simp] at hxr
  clear hA
  go_enter Tryd.func6, Tryd.ntmps6
  go_wp2_with fail
  refine (frGood_yes p0 q0 _ g0).mono ?_
  rintro e w1 ⟨rfl, hb⟩
  replace h := Below.step h hb
  replace hx0 := hx0.kept hb
  replace hxr := hxr.kept hb
  clear hb
  obtain ⟨ahx0, bhx0⟩ := hx0.two
  have lhx0 := hx0.lt
  obtain ⟨ahxr, bhxr⟩ := hxr.two
  have lhxr := hxr.lt
  go_wp2_with fail
  refine (frFloor_any p0 q0 _ g0).mono ?_
  rintro e w2 ⟨rfl, hb⟩
  replace h := Below.step h hb
  replace hx0 := hx0.kept hb
  replace hxr := hxr.kept hb
  clear hb ahx0 bhx0 lhx0 ahxr bhxr lhxr
  obtain ⟨ahx0, bhx0⟩ := hx0.two
  have lhx0 := hx0.lt
  obtain ⟨ahxr, bhxr⟩ := hxr.two
  have lhxr := hxr.lt
  have f0 := hxr.free 0
  have f1 := hxr.free 1
  generalize p0 / q0 = K at *
  go_wp2_with fail
  go_region
  go_wp2_with fail
  refine bodyPost_ret (v := .tuple #[.int .i64 (K), .agg #[.int .i64 (p0 - K * q0), .int .i64 (q0)], .bool true]) (by simp [results, Tryd.results6, go_sem, ahxr, bhxr]) rfl ⟨rfl, ?_⟩
  first | exact (h.setCell (by first | (simp; done) | (simp; omega)) _).setCell (by first | (simp; done) | (simp; omega)) _ | exact Below.drewN' ((h.setCell (by first | (simp; done) | (simp; omega)) _).setCell (by first | (simp; done) | (simp; omega)) _) 1

set_option maxHeartbeats 1000000 in
theorem floorRestS_no (p0 q0 : Int) (w : World) (g0 : ¬ FrG p0 q0) : Calls Tryd.prog 6 #[.agg #[.int .i64 p0, .int .i64 q0]] w (GivesIFB w 0 0 0 false) := by
  have h := Below.refl w.heap.size w
  have hA := below_alloc1 w (.cells #[.int .i64 p0, .int .i64 q0] 24)
  replace h := Below.step h hA
  have hx0 := Box.new w 24 #[.int .i64 p0, .int .i64 q0]
  clear hA
  have hA := below_alloc1 (w.alloc (.cells #[.int .i64 p0, .int .i64 q0] 24)) (.cells #[.int .i64 0, .int .i64 0] 24)
  replace h := Below.step h hA
  replace hx0 := hx0.kept hA
  have hxr := Box.new (w.alloc (.cells #[.int .i64 p0, .int .i64 q0] 24)) 24 #[.int .i64 0, .int .i64 0]
  rw [show (w.alloc (.cells #[.int .i64 p0, .int .i64 q0] 24)).heap.size = w.heap.size + 1 from by simp] at hxr
  clear hA
  go_enter Tryd.func6, Tryd.ntmps6
  go_wp2_with fail
  refine (frGood_no p0 q0 _ g0).mono ?_
  rintro e w1 ⟨rfl, hb⟩
  replace h := Below.step h hb
  replace hx0 := hx0.kept hb
  replace hxr := hxr.kept hb
  clear hb
  obtain ⟨ahx0, bhx0⟩ := hx0.two
  have lhx0 := hx0.lt
  obtain ⟨ahxr, bhxr⟩ := hxr.two
  have lhxr := hxr.lt
  have f0 := hxr.free 0
  have f1 := hxr.free 1
  go_wp2_with fail
  refine bodyPost_ret (v := .tuple #[.int .i64 (0), .agg #[.int .i64 (0), .int .i64 (0)], .bool false]) (by simp [results, Tryd.results6, go_sem, ahxr, bhxr]) rfl ⟨rfl, ?_⟩
  exact (h.setCell (by first | (simp; done) | (simp; omega)) _).setCell (by first | (simp; done) | (simp; omega)) _

set_option maxHeartbeats 1000000 in
theorem floorRestI_yes (p0 q0 : Int) (w : World) (hL : Lim w) (g0 : FrG p0 q0) : Calls Tryd.prog 5 #[.agg #[.int .i64 p0, .int .i64 q0]] w (GivesIFB w (p0 / q0) (p0 - p0 / q0 * q0) q0 true) := by
  have g0' := g0
  obtain ⟨a1, a2, a3, a4, -⟩ := g0'
  obtain ⟨k0, k1⟩ := floor_bd (n := p0) (d := q0) (B := 1000000000) (by omega) (by omega)
  obtain ⟨m0, m1⟩ := fr_mul_1e18 (a := p0 / q0) (b := q0) (by omega) (by omega) (by omega) (by omega)
  have h := Below.refl w.heap.size w
  have hA := below_alloc1 w (.cells #[.int .i64 p0, .int .i64 q0] 24)
  replace h := Below.step h hA
  have hx0 := Box.new w 24 #[.int .i64 p0, .int .i64 q0]
  clear hA
  have hA := below_alloc1 (w.alloc (.cells #[.int .i64 p0, .int .i64 q0] 24)) (.cells #[.int .i64 0, .int .i64 0] 24)
  replace h := Below.step h hA
  replace hx0 := hx0.kept hA
  have hxr := Box.new (w.alloc (.cells #[.int .i64 p0, .int .i64 q0] 24)) 24 #[.int .i64 0, .int .i64 0]
  rw [show (w.alloc (.cells #[.int .i64 p0, .int .i64 q0] 24)).heap.size = w.heap.size + 1 from by simp] at hxr
  clear hA
  go_enter Tryd.func5, Tryd.ntmps5
  go_wp2_with fail
  refine (isFractionI_yes p0 q0 _ (by exact hL.kept h) g0).mono ?_
  rintro e w1 ⟨rfl, hb⟩
  replace h := Below.step h hb
  replace hx0 := hx0.kept hb
  replace hxr := hxr.kept hb
  clear hb
  obtain ⟨ahx0, bhx0⟩ := hx0.two
  have lhx0 := hx0.lt
  obtain ⟨ahxr, bhxr⟩ := hxr.two
  have lhxr := hxr.lt
  go_wp2_with fail
  refine (floorOf_any p0 q0 _ (by omega) (by omega) (by omega) (by omega)).mono ?_
  rintro e w' ⟨rfl, rfl⟩
  have f0 := hxr.free 0
  have f1 := hxr.free 1
  generalize p0 / q0 = K at *
  go_wp2_with fail
  go_region
  go_wp2_with fail
  refine bodyPost_ret (v := .tuple #[.int .i64 (K), .agg #[.int .i64 (p0 - K * q0), .int .i64 (q0)], .bool true]) (by simp [results, Tryd.results5, go_sem, ahxr, bhxr]) rfl ⟨rfl, ?_⟩
  first | exact (h.setCell (by first | (simp; done) | (simp; omega)) _).setCell (by first | (simp; done) | (simp; omega)) _ | exact Below.drewN' ((h.setCell (by first | (simp; done) | (simp; omega)) _).setCell (by first | (simp; done) | (simp; omega)) _) 1

set_option maxHeartbeats 1000000 in
theorem floorRestI_no (p0 q0 : Int) (w : World) (hL : Lim w) (g0 : ¬ FrG p0 q0) : Calls Tryd.prog 5 #[.agg #[.int .i64 p0, .int .i64 q0]] w (GivesIFB w 0 0 0 false) := by
  have h := Below.refl w.heap.size w
  have hA := below_alloc1 w (.cells #[.int .i64 p0, .int .i64 q0] 24)
  replace h := Below.step h hA
  have hx0 := Box.new w 24 #[.int .i64 p0, .int .i64 q0]
  clear hA
  have hA := below_alloc1 (w.alloc (.cells #[.int .i64 p0, .int .i64 q0] 24)) (.cells #[.int .i64 0, .int .i64 0] 24)
  replace h := Below.step h hA
  replace hx0 := hx0.kept hA
  have hxr := Box.new (w.alloc (.cells #[.int .i64 p0, .int .i64 q0] 24)) 24 #[.int .i64 0, .int .i64 0]
  rw [show (w.alloc (.cells #[.int .i64 p0, .int .i64 q0] 24)).heap.size = w.heap.size + 1 from by simp] at hxr
  clear hA
  go_enter Tryd.func5, Tryd.ntmps5
  go_wp2_with fail
  refine (isFractionI_no p0 q0 _ (by exact hL.kept h) g0).mono ?_
  rintro e w1 ⟨rfl, hb⟩
  replace h := Below.step h hb
  replace hx0 := hx0.kept hb
  replace hxr := hxr.kept hb
  clear hb
  obtain ⟨ahx0, bhx0⟩ := hx0.two
  have lhx0 := hx0.lt
  obtain ⟨ahxr, bhxr⟩ := hxr.two
  have lhxr := hxr.lt
  have f0 := hxr.free 0
  have f1 := hxr.free 1
  go_wp2_with fail
  refine bodyPost_ret (v := .tuple #[.int .i64 (0), .agg #[.int .i64 (0), .int .i64 (0)], .bool false]) (by simp [results, Tryd.results5, go_sem, ahxr, bhxr]) rfl ⟨rfl, ?_⟩
  exact (h.setCell (by first | (simp; done) | (simp; omega)) _).setCell (by first | (simp; done) | (simp; omega)) _

set_option maxHeartbeats 1000000 in
theorem heightS_pp (p0 q0 : Int) (w : World) (g0 : FrG p0 q0) (c1 : 0 ≤ p0) (c2 : q0 < p0) : Calls Tryd.prog 10 #[.agg #[.int .i64 p0, .int .i64 q0]] w (GivesIB w (p0) true) := by
  have g0' := g0
  obtain ⟨a1, a2, a3, a4, -⟩ := g0'
  have h := Below.refl w.heap.size w
  have hA := below_alloc1 w (.cells #[.int .i64 p0, .int .i64 q0] 24)
  replace h := Below.step h hA
  have hx0 := Box.new w 24 #[.int .i64 p0, .int .i64 q0]
  clear hA
  have ea := fun W => l1Abs_any p0 W (by omega) (by omega)
  rw [show ((p0.natAbs : Nat) : Int) = p0 from by omega] at ea
  replace ea := Lib.hid ea
  have eb := fun W => l1Most_left (p0) q0 W (by omega)
  replace eb := Lib.hid eb
  go_enter Tryd.func10, Tryd.ntmps10
  go_wp2_with fail
  refine (frGood_yes p0 q0 _ g0).mono ?_
  rintro e w1 ⟨rfl, hb⟩
  replace h := Below.step h hb
  replace hx0 := hx0.kept hb
  clear hb
  obtain ⟨ahx0, bhx0⟩ := hx0.two
  have lhx0 := hx0.lt
  go_wp2_with fail
  go_quiet ((first | (go_at_call 31; exact quiet_left (ea.out _)) | (go_at_call 30; exact quiet_left (eb.out _))))
  go_wp2_with fail
  go_ret2
  exact ⟨rfl, Below.drewN' h _⟩

set_option maxHeartbeats 1000000 in
theorem heightS_pq (p0 q0 : Int) (w : World) (g0 : FrG p0 q0) (c1 : 0 ≤ p0) (c2 : p0 ≤ q0) : Calls Tryd.prog 10 #[.agg #[.int .i64 p0, .int .i64 q0]] w (GivesIB w (q0) true) := by
  have g0' := g0
  obtain ⟨a1, a2, a3, a4, -⟩ := g0'
  have h := Below.refl w.heap.size w
  have hA := below_alloc1 w (.cells #[.int .i64 p0, .int .i64 q0] 24)
  replace h := Below.step h hA
  have hx0 := Box.new w 24 #[.int .i64 p0, .int .i64 q0]
  clear hA
  have ea := fun W => l1Abs_any p0 W (by omega) (by omega)
  rw [show ((p0.natAbs : Nat) : Int) = p0 from by omega] at ea
  replace ea := Lib.hid ea
  have eb := fun W => l1Most_right (p0) q0 W (by omega)
  replace eb := Lib.hid eb
  go_enter Tryd.func10, Tryd.ntmps10
  go_wp2_with fail
  refine (frGood_yes p0 q0 _ g0).mono ?_
  rintro e w1 ⟨rfl, hb⟩
  replace h := Below.step h hb
  replace hx0 := hx0.kept hb
  clear hb
  obtain ⟨ahx0, bhx0⟩ := hx0.two
  have lhx0 := hx0.lt
  go_wp2_with fail
  go_quiet ((first | (go_at_call 31; exact quiet_left (ea.out _)) | (go_at_call 30; exact quiet_left (eb.out _))))
  go_wp2_with fail
  go_ret2
  exact ⟨rfl, Below.drewN' h _⟩

set_option maxHeartbeats 1000000 in
theorem heightS_nn (p0 q0 : Int) (w : World) (g0 : FrG p0 q0) (c1 : p0 < 0) (c2 : q0 < -p0) : Calls Tryd.prog 10 #[.agg #[.int .i64 p0, .int .i64 q0]] w (GivesIB w (-p0) true) := by
  have g0' := g0
  obtain ⟨a1, a2, a3, a4, -⟩ := g0'
  have h := Below.refl w.heap.size w
  have hA := below_alloc1 w (.cells #[.int .i64 p0, .int .i64 q0] 24)
  replace h := Below.step h hA
  have hx0 := Box.new w 24 #[.int .i64 p0, .int .i64 q0]
  clear hA
  have ea := fun W => l1Abs_any p0 W (by omega) (by omega)
  rw [show ((p0.natAbs : Nat) : Int) = -p0 from by omega] at ea
  replace ea := Lib.hid ea
  have eb := fun W => l1Most_left (-p0) q0 W (by omega)
  replace eb := Lib.hid eb
  go_enter Tryd.func10, Tryd.ntmps10
  go_wp2_with fail
  refine (frGood_yes p0 q0 _ g0).mono ?_
  rintro e w1 ⟨rfl, hb⟩
  replace h := Below.step h hb
  replace hx0 := hx0.kept hb
  clear hb
  obtain ⟨ahx0, bhx0⟩ := hx0.two
  have lhx0 := hx0.lt
  go_wp2_with fail
  go_quiet ((first | (go_at_call 31; exact quiet_left (ea.out _)) | (go_at_call 30; exact quiet_left (eb.out _))))
  go_wp2_with fail
  go_ret2
  exact ⟨rfl, Below.drewN' h _⟩

set_option maxHeartbeats 1000000 in
theorem heightS_nq (p0 q0 : Int) (w : World) (g0 : FrG p0 q0) (c1 : p0 < 0) (c2 : -p0 ≤ q0) : Calls Tryd.prog 10 #[.agg #[.int .i64 p0, .int .i64 q0]] w (GivesIB w (q0) true) := by
  have g0' := g0
  obtain ⟨a1, a2, a3, a4, -⟩ := g0'
  have h := Below.refl w.heap.size w
  have hA := below_alloc1 w (.cells #[.int .i64 p0, .int .i64 q0] 24)
  replace h := Below.step h hA
  have hx0 := Box.new w 24 #[.int .i64 p0, .int .i64 q0]
  clear hA
  have ea := fun W => l1Abs_any p0 W (by omega) (by omega)
  rw [show ((p0.natAbs : Nat) : Int) = -p0 from by omega] at ea
  replace ea := Lib.hid ea
  have eb := fun W => l1Most_right (-p0) q0 W (by omega)
  replace eb := Lib.hid eb
  go_enter Tryd.func10, Tryd.ntmps10
  go_wp2_with fail
  refine (frGood_yes p0 q0 _ g0).mono ?_
  rintro e w1 ⟨rfl, hb⟩
  replace h := Below.step h hb
  replace hx0 := hx0.kept hb
  clear hb
  obtain ⟨ahx0, bhx0⟩ := hx0.two
  have lhx0 := hx0.lt
  go_wp2_with fail
  go_quiet ((first | (go_at_call 31; exact quiet_left (ea.out _)) | (go_at_call 30; exact quiet_left (eb.out _))))
  go_wp2_with fail
  go_ret2
  exact ⟨rfl, Below.drewN' h _⟩

set_option maxHeartbeats 1000000 in
theorem heightS_no (p0 q0 : Int) (w : World) (g0 : ¬ FrG p0 q0) : Calls Tryd.prog 10 #[.agg #[.int .i64 p0, .int .i64 q0]] w (GivesIB w 0 false) := by
  have h := Below.refl w.heap.size w
  have hA := below_alloc1 w (.cells #[.int .i64 p0, .int .i64 q0] 24)
  replace h := Below.step h hA
  have hx0 := Box.new w 24 #[.int .i64 p0, .int .i64 q0]
  clear hA
  go_enter Tryd.func10, Tryd.ntmps10
  go_wp2_with fail
  refine (frGood_no p0 q0 _ g0).mono ?_
  rintro e w1 ⟨rfl, hb⟩
  replace h := Below.step h hb
  replace hx0 := hx0.kept hb
  clear hb
  obtain ⟨ahx0, bhx0⟩ := hx0.two
  have lhx0 := hx0.lt
  go_wp2_with fail
  go_ret2
  exact ⟨rfl, h⟩

set_option maxHeartbeats 1000000 in
theorem heightI_pp (p0 q0 : Int) (w : World) (hL : Lim w) (g0 : FrG p0 q0) (c1 : 0 ≤ p0) (c2 : q0 < p0) : Calls Tryd.prog 9 #[.agg #[.int .i64 p0, .int .i64 q0]] w (GivesIB w (p0) true) := by
  have g0' := g0
  obtain ⟨a1, a2, a3, a4, -⟩ := g0'
  have h := Below.refl w.heap.size w
  have hA := below_alloc1 w (.cells #[.int .i64 p0, .int .i64 q0] 24)
  replace h := Below.step h hA
  have hx0 := Box.new w 24 #[.int .i64 p0, .int .i64 q0]
  clear hA
  go_enter Tryd.func9, Tryd.ntmps9
  go_wp2_with fail
  refine (isFractionI_yes p0 q0 _ (by exact hL.kept h) g0).mono ?_
  rintro e w1 ⟨rfl, hb⟩
  replace h := Below.step h hb
  replace hx0 := hx0.kept hb
  clear hb
  obtain ⟨ahx0, bhx0⟩ := hx0.two
  have lhx0 := hx0.lt
  have hB := h
  go_wp2_with fail
  all_goals (first | (go_ret2; exact ⟨rfl, hB⟩) | (obtain rfl : q0 = p0 := (by omega); go_ret2; exact ⟨rfl, hB⟩))

set_option maxHeartbeats 1000000 in
theorem heightI_pq (p0 q0 : Int) (w : World) (hL : Lim w) (g0 : FrG p0 q0) (c1 : 0 ≤ p0) (c2 : p0 ≤ q0) : Calls Tryd.prog 9 #[.agg #[.int .i64 p0, .int .i64 q0]] w (GivesIB w (q0) true) := by
  have g0' := g0
  obtain ⟨a1, a2, a3, a4, -⟩ := g0'
  have h := Below.refl w.heap.size w
  have hA := below_alloc1 w (.cells #[.int .i64 p0, .int .i64 q0] 24)
  replace h := Below.step h hA
  have hx0 := Box.new w 24 #[.int .i64 p0, .int .i64 q0]
  clear hA
  go_enter Tryd.func9, Tryd.ntmps9
  go_wp2_with fail
  refine (isFractionI_yes p0 q0 _ (by exact hL.kept h) g0).mono ?_
  rintro e w1 ⟨rfl, hb⟩
  replace h := Below.step h hb
  replace hx0 := hx0.kept hb
  clear hb
  obtain ⟨ahx0, bhx0⟩ := hx0.two
  have lhx0 := hx0.lt
  have hB := h
  go_wp2_with fail
  all_goals (first | (go_ret2; exact ⟨rfl, hB⟩) | (obtain rfl : q0 = p0 := (by omega); go_ret2; exact ⟨rfl, hB⟩))

set_option maxHeartbeats 1000000 in
theorem heightI_nn (p0 q0 : Int) (w : World) (hL : Lim w) (g0 : FrG p0 q0) (c1 : p0 < 0) (c2 : q0 < -p0) : Calls Tryd.prog 9 #[.agg #[.int .i64 p0, .int .i64 q0]] w (GivesIB w (-p0) true) := by
  have g0' := g0
  obtain ⟨a1, a2, a3, a4, -⟩ := g0'
  have h := Below.refl w.heap.size w
  have hA := below_alloc1 w (.cells #[.int .i64 p0, .int .i64 q0] 24)
  replace h := Below.step h hA
  have hx0 := Box.new w 24 #[.int .i64 p0, .int .i64 q0]
  clear hA
  go_enter Tryd.func9, Tryd.ntmps9
  go_wp2_with fail
  refine (isFractionI_yes p0 q0 _ (by exact hL.kept h) g0).mono ?_
  rintro e w1 ⟨rfl, hb⟩
  replace h := Below.step h hb
  replace hx0 := hx0.kept hb
  clear hb
  obtain ⟨ahx0, bhx0⟩ := hx0.two
  have lhx0 := hx0.lt
  have hB := h
  go_wp2_with fail
  all_goals (first | (go_ret2; exact ⟨rfl, hB⟩) | (obtain rfl : q0 = -p0 := (by omega); go_ret2; exact ⟨rfl, hB⟩))

set_option maxHeartbeats 1000000 in
theorem heightI_nq (p0 q0 : Int) (w : World) (hL : Lim w) (g0 : FrG p0 q0) (c1 : p0 < 0) (c2 : -p0 ≤ q0) : Calls Tryd.prog 9 #[.agg #[.int .i64 p0, .int .i64 q0]] w (GivesIB w (q0) true) := by
  have g0' := g0
  obtain ⟨a1, a2, a3, a4, -⟩ := g0'
  have h := Below.refl w.heap.size w
  have hA := below_alloc1 w (.cells #[.int .i64 p0, .int .i64 q0] 24)
  replace h := Below.step h hA
  have hx0 := Box.new w 24 #[.int .i64 p0, .int .i64 q0]
  clear hA
  go_enter Tryd.func9, Tryd.ntmps9
  go_wp2_with fail
  refine (isFractionI_yes p0 q0 _ (by exact hL.kept h) g0).mono ?_
  rintro e w1 ⟨rfl, hb⟩
  replace h := Below.step h hb
  replace hx0 := hx0.kept hb
  clear hb
  obtain ⟨ahx0, bhx0⟩ := hx0.two
  have lhx0 := hx0.lt
  have hB := h
  go_wp2_with fail
  all_goals (first | (go_ret2; exact ⟨rfl, hB⟩) | (obtain rfl : q0 = -p0 := (by omega); go_ret2; exact ⟨rfl, hB⟩))

set_option maxHeartbeats 1000000 in
theorem heightI_no (p0 q0 : Int) (w : World) (hL : Lim w) (g0 : ¬ FrG p0 q0) : Calls Tryd.prog 9 #[.agg #[.int .i64 p0, .int .i64 q0]] w (GivesIB w 0 false) := by
  have h := Below.refl w.heap.size w
  have hA := below_alloc1 w (.cells #[.int .i64 p0, .int .i64 q0] 24)
  replace h := Below.step h hA
  have hx0 := Box.new w 24 #[.int .i64 p0, .int .i64 q0]
  clear hA
  go_enter Tryd.func9, Tryd.ntmps9
  go_wp2_with fail
  refine (isFractionI_no p0 q0 _ (by exact hL.kept h) g0).mono ?_
  rintro e w1 ⟨rfl, hb⟩
  replace h := Below.step h hb
  replace hx0 := hx0.kept hb
  clear hb
  obtain ⟨ahx0, bhx0⟩ := hx0.two
  have lhx0 := hx0.lt
  go_wp2_with fail
  go_ret2
  exact ⟨rfl, h⟩
end Go.Proofs.YtchglkcfolannabDoor
