/- DifferenceOf: the program's (cut out of XFrSums by wip/gen/cuttpl.py). -/
import Derived.Test.YtchglkcfolannaaDoorFnOps
namespace Go.Proofs.YtchglkcfolannaaDoor
open Go.RowKit Go.Joins

theorem FrG.neg {p q : Int} (h : FrG p q) : FrG (-p) q := by
  obtain ⟨h1, h2, h3, h4, h5⟩ := h
  exact ⟨h1, h2, by omega, by omega, by rw [Int.natAbs_neg]; exact h5⟩

theorem FrG.neg' {p q : Int} (h : FrG (-p) q) : FrG p q := by have := h.neg; rwa [Int.neg_neg] at this

set_option maxHeartbeats 1000000 in
theorem differenceI_yes (p0 q0 p1 q1 : Int) (w : World) (hL : Lim w) (g0 : FrG p0 q0) (g1 : FrG p1 q1) :
    Calls Tryd.prog 7 #[.agg #[.int .i64 p0, .int .i64 q0], .agg #[.int .i64 p1, .int .i64 q1]] w (GivesFB w (lowRP (p0 * q1 - p1 * q0) (q0 * q1)) (lowRQ (p0 * q1 - p1 * q0) (q0 * q1)) (lowB (p0 * q1 - p1 * q0) (q0 * q1))) := by
  have cs := fun (W : World) (hL : Lim W) => sumI_yes p0 q0 (-p1) q1 W hL g0 g1.neg
  rw [show p0 * q1 + -p1 * q0 = p0 * q1 - p1 * q0 from by rw [Int.neg_mul]; omega] at cs
  obtain ⟨P, hP⟩ : ∃ P, P = lowRP (p0 * q1 - p1 * q0) (q0 * q1) := ⟨_, rfl⟩
  obtain ⟨Q, hQ⟩ : ∃ Q, Q = lowRQ (p0 * q1 - p1 * q0) (q0 * q1) := ⟨_, rfl⟩
  obtain ⟨B, hB⟩ : ∃ B, B = lowB (p0 * q1 - p1 * q0) (q0 * q1) := ⟨_, rfl⟩
  rw [← hP, ← hQ, ← hB] at cs
  rw [← hP, ← hQ, ← hB]
  clear hP hQ hB
  obtain ⟨b1, b2, b3, b4, -⟩ := g1
  have h := Below.refl w.heap.size w
  have hA := below_alloc1 w (.cells #[.int .i64 p0, .int .i64 q0] 24)
  replace h := Below.step h hA
  have hx0 := Box.new w 24 #[.int .i64 p0, .int .i64 q0]
  clear hA
  have hA := below_alloc1 (w.alloc (.cells #[.int .i64 p0, .int .i64 q0] 24)) (.cells #[.int .i64 (p1), .int .i64 q1] 24)
  replace h := Below.step h hA
  replace hx0 := hx0.kept hA
  have hx1 := Box.new (w.alloc (.cells #[.int .i64 p0, .int .i64 q0] 24)) 24 #[.int .i64 (p1), .int .i64 q1]
  rw [show (w.alloc (.cells #[.int .i64 p0, .int .i64 q0] 24)).heap.size = w.heap.size + 1 from by simp] at hx1
  clear hA
  have hA := below_alloc1 ((w.alloc (.cells #[.int .i64 p0, .int .i64 q0] 24)).alloc (.cells #[.int .i64 (p1), .int .i64 q1] 24)) (.cells #[.int .i64 0, .int .i64 0] 24)
  replace h := Below.step h hA
  replace hx0 := hx0.kept hA
  replace hx1 := hx1.kept hA
  have hxr := Box.new ((w.alloc (.cells #[.int .i64 p0, .int .i64 q0] 24)).alloc (.cells #[.int .i64 (p1), .int .i64 q1] 24)) 24 #[.int .i64 0, .int .i64 0]
  rw [show ((w.alloc (.cells #[.int .i64 p0, .int .i64 q0] 24)).alloc (.cells #[.int .i64 (p1), .int .i64 q1] 24)).heap.size = w.heap.size + 1 + 1 from by simp] at hxr
  clear hA
  replace cs := Lib.hid cs
  go_enter Tryd.func7, Tryd.ntmps7
  go_wp2_with fail
  refine (cs.out _ (by exact hL.kept h)).mono ?_
  rintro e w1 ⟨rfl, hb⟩
  replace h := Below.step h hb
  replace hx0 := hx0.kept hb
  replace hx1 := hx1.kept hb
  replace hxr := hxr.kept hb
  clear hb
  obtain ⟨ahx0, bhx0⟩ := hx0.two
  have lhx0 := hx0.lt
  obtain ⟨ahx1, bhx1⟩ := hx1.two
  have lhx1 := hx1.lt
  obtain ⟨ahxr, bhxr⟩ := hxr.two
  have lhxr := hxr.lt
  have f0 := hxr.free 0
  have f1 := hxr.free 1
  go_wp2_with fail
  refine bodyPost_ret (v := .tuple #[.agg #[.int .i64 (P), .int .i64 (Q)], .bool B]) (by simp [results, Tryd.results7, go_sem, ahxr, bhxr]) rfl ⟨rfl, ?_⟩
  exact (h.setCell (by first | (simp; done) | (simp; omega)) _).setCell (by first | (simp; done) | (simp; omega)) _

set_option maxHeartbeats 1000000 in
theorem differenceI_no1 (p0 q0 p1 q1 : Int) (w : World) (hL : Lim w) (hp : -9223372036854775808 < p1) (hp2 : p1 ≤ 9223372036854775807) (g : ¬ (FrG p0 q0 ∧ FrG p1 q1)) :
    Calls Tryd.prog 7 #[.agg #[.int .i64 p0, .int .i64 q0], .agg #[.int .i64 p1, .int .i64 q1]] w (GivesFB w 0 0 false) := by
  have cs := fun (W : World) (hL : Lim W) => sumI_no p0 q0 (-p1) q1 W hL (fun h => g ⟨h.1, h.2.neg'⟩)
  have hp3 : -9223372036854775807 ≤ p1 := by omega
  have h := Below.refl w.heap.size w
  have hA := below_alloc1 w (.cells #[.int .i64 p0, .int .i64 q0] 24)
  replace h := Below.step h hA
  have hx0 := Box.new w 24 #[.int .i64 p0, .int .i64 q0]
  clear hA
  have hA := below_alloc1 (w.alloc (.cells #[.int .i64 p0, .int .i64 q0] 24)) (.cells #[.int .i64 (p1), .int .i64 q1] 24)
  replace h := Below.step h hA
  replace hx0 := hx0.kept hA
  have hx1 := Box.new (w.alloc (.cells #[.int .i64 p0, .int .i64 q0] 24)) 24 #[.int .i64 (p1), .int .i64 q1]
  rw [show (w.alloc (.cells #[.int .i64 p0, .int .i64 q0] 24)).heap.size = w.heap.size + 1 from by simp] at hx1
  clear hA
  have hA := below_alloc1 ((w.alloc (.cells #[.int .i64 p0, .int .i64 q0] 24)).alloc (.cells #[.int .i64 (p1), .int .i64 q1] 24)) (.cells #[.int .i64 0, .int .i64 0] 24)
  replace h := Below.step h hA
  replace hx0 := hx0.kept hA
  replace hx1 := hx1.kept hA
  have hxr := Box.new ((w.alloc (.cells #[.int .i64 p0, .int .i64 q0] 24)).alloc (.cells #[.int .i64 (p1), .int .i64 q1] 24)) 24 #[.int .i64 0, .int .i64 0]
  rw [show ((w.alloc (.cells #[.int .i64 p0, .int .i64 q0] 24)).alloc (.cells #[.int .i64 (p1), .int .i64 q1] 24)).heap.size = w.heap.size + 1 + 1 from by simp] at hxr
  clear hA
  replace cs := Lib.hid cs
  go_enter Tryd.func7, Tryd.ntmps7
  go_wp2_with fail
  refine (cs.out _ (by exact hL.kept h)).mono ?_
  rintro e w1 ⟨rfl, hb⟩
  replace h := Below.step h hb
  replace hx0 := hx0.kept hb
  replace hx1 := hx1.kept hb
  replace hxr := hxr.kept hb
  clear hb
  obtain ⟨ahx0, bhx0⟩ := hx0.two
  have lhx0 := hx0.lt
  obtain ⟨ahx1, bhx1⟩ := hx1.two
  have lhx1 := hx1.lt
  obtain ⟨ahxr, bhxr⟩ := hxr.two
  have lhxr := hxr.lt
  have f0 := hxr.free 0
  have f1 := hxr.free 1
  go_wp2_with fail
  refine bodyPost_ret (v := .tuple #[.agg #[.int .i64 (0), .int .i64 (0)], .bool false]) (by simp [results, Tryd.results7, go_sem, ahxr, bhxr]) rfl ⟨rfl, ?_⟩
  exact (h.setCell (by first | (simp; done) | (simp; omega)) _).setCell (by first | (simp; done) | (simp; omega)) _

set_option maxHeartbeats 1000000 in
theorem differenceI_no2 (p0 q0 p1 q1 : Int) (w : World) (hL : Lim w) (hm : p1 = -9223372036854775808) :
    Calls Tryd.prog 7 #[.agg #[.int .i64 p0, .int .i64 q0], .agg #[.int .i64 p1, .int .i64 q1]] w (GivesFB w 0 0 false) := by
  have cs := fun (W : World) (hL : Lim W) => sumI_no p0 q0 (wrap64 (-p1)) q1 W hL (fun h => by have h1 := h.2.2.2.1; have h2 : wrap64 (-p1) = -9223372036854775808 := (by unfold wrap64; omega); omega)
  clear hm
  have h := Below.refl w.heap.size w
  have hA := below_alloc1 w (.cells #[.int .i64 p0, .int .i64 q0] 24)
  replace h := Below.step h hA
  have hx0 := Box.new w 24 #[.int .i64 p0, .int .i64 q0]
  clear hA
  have hA := below_alloc1 (w.alloc (.cells #[.int .i64 p0, .int .i64 q0] 24)) (.cells #[.int .i64 (p1), .int .i64 q1] 24)
  replace h := Below.step h hA
  replace hx0 := hx0.kept hA
  have hx1 := Box.new (w.alloc (.cells #[.int .i64 p0, .int .i64 q0] 24)) 24 #[.int .i64 (p1), .int .i64 q1]
  rw [show (w.alloc (.cells #[.int .i64 p0, .int .i64 q0] 24)).heap.size = w.heap.size + 1 from by simp] at hx1
  clear hA
  have hA := below_alloc1 ((w.alloc (.cells #[.int .i64 p0, .int .i64 q0] 24)).alloc (.cells #[.int .i64 (p1), .int .i64 q1] 24)) (.cells #[.int .i64 0, .int .i64 0] 24)
  replace h := Below.step h hA
  replace hx0 := hx0.kept hA
  replace hx1 := hx1.kept hA
  have hxr := Box.new ((w.alloc (.cells #[.int .i64 p0, .int .i64 q0] 24)).alloc (.cells #[.int .i64 (p1), .int .i64 q1] 24)) 24 #[.int .i64 0, .int .i64 0]
  rw [show ((w.alloc (.cells #[.int .i64 p0, .int .i64 q0] 24)).alloc (.cells #[.int .i64 (p1), .int .i64 q1] 24)).heap.size = w.heap.size + 1 + 1 from by simp] at hxr
  clear hA
  replace cs := Lib.hid cs
  go_enter Tryd.func7, Tryd.ntmps7
  go_wp2_with fail
  refine (cs.out _ (by exact hL.kept h)).mono ?_
  rintro e w1 ⟨rfl, hb⟩
  replace h := Below.step h hb
  replace hx0 := hx0.kept hb
  replace hx1 := hx1.kept hb
  replace hxr := hxr.kept hb
  clear hb
  obtain ⟨ahx0, bhx0⟩ := hx0.two
  have lhx0 := hx0.lt
  obtain ⟨ahx1, bhx1⟩ := hx1.two
  have lhx1 := hx1.lt
  obtain ⟨ahxr, bhxr⟩ := hxr.two
  have lhxr := hxr.lt
  have f0 := hxr.free 0
  have f1 := hxr.free 1
  go_wp2_with fail
  refine bodyPost_ret (v := .tuple #[.agg #[.int .i64 (0), .int .i64 (0)], .bool false]) (by simp [results, Tryd.results7, go_sem, ahxr, bhxr]) rfl ⟨rfl, ?_⟩
  exact (h.setCell (by first | (simp; done) | (simp; omega)) _).setCell (by first | (simp; done) | (simp; omega)) _
end Go.Proofs.YtchglkcfolannaaDoor
