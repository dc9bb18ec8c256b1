/- frMake, frAdd with loose results; frAdd where a part may be wild (written by wip/gen/fpsi.py). -/
import Derived.Test.YtchglkcfolannabDoorFpOps
import Derived.Test.YtchglkcfolannabDoorDrawFr
namespace Go.Proofs.YtchglkcfolannabDoor
open Go.RowKit Go.Joins

/-- Some fraction below the limit and some bool. -/
def GivesSome (w : World) (e : Ending) (w' : World) : Prop := ∃ (P Q : Int) (B : Bool), (-1000000000 ≤ P ∧ P ≤ 1000000000) ∧ (-1000000000 ≤ Q ∧ Q ≤ 1000000000) ∧ e = .returned (.tuple #[.agg #[.int .i64 P, .int .i64 Q], .bool B]) ∧ Below w.heap.size w w'
theorem frMake_bd (n d : Int) (w : World) (hn0 : -4000000000000000000 ≤ n) (hn1 : n ≤ 4000000000000000000) (hd0 : -4000000000000000000 ≤ d) (hd1 : d ≤ 4000000000000000000) :
    Calls Tryd.prog 39 #[.int .i64 n, .int .i64 d] w (GivesSome w) := by
  refine (frMake_any n d w hn0 hn1 hd0 hd1).mono ?_
  rintro e w' ⟨h1, h2⟩
  exact ⟨_, _, _, (low_bd n d).1, (low_bd n d).2, h1, h2⟩

set_option maxHeartbeats 1000000 in
theorem frAdd_small (p q z : Int) (w : World) (hp1 : -1000000001 ≤ p) (hp2 : p ≤ 1000000001) (hq1 : -1 ≤ q) (hq2 : q ≤ 1000000001) (hz1 : 2 ≤ z) (hz2 : z ≤ 700) :
    Calls Tryd.prog 40 #[.agg #[.int .i64 p, .int .i64 q], .agg #[.int .i64 1, .int .i64 z]] w (GivesSome w) := by
  have m1 := fr_mul_bd (a := p) (b := z) (M := 1000000001) (N := 700) (by omega) (by omega) (by omega) (by omega)
  have m2 := fr_mul_bd (a := q) (b := z) (M := 1000000001) (N := 700) (by omega) (by omega) (by omega) (by omega)
  rw [show ((1000000001 : Int) * 700) = 700000000700 from by decide] at m1 m2
  obtain ⟨m1a, m1b⟩ := m1
  obtain ⟨m2a, m2b⟩ := m2
  have h := Below.refl w.heap.size w
  have hA := below_alloc1 w (.cells #[.int .i64 p, .int .i64 q] 24)
  replace h := Below.step h hA
  have hx0 := Box.new w 24 #[.int .i64 p, .int .i64 q]
  clear hA
  have hA := below_alloc1 (w.alloc (.cells #[.int .i64 p, .int .i64 q] 24)) (.cells #[.int .i64 1, .int .i64 z] 24)
  replace h := Below.step h hA
  replace hx0 := hx0.kept hA
  have hx1 := Box.new (w.alloc (.cells #[.int .i64 p, .int .i64 q] 24)) 24 #[.int .i64 1, .int .i64 z]
  rw [show (w.alloc (.cells #[.int .i64 p, .int .i64 q] 24)).heap.size = w.heap.size + 1 from by simp] at hx1
  clear hA
  have hA := below_alloc1 ((w.alloc (.cells #[.int .i64 p, .int .i64 q] 24)).alloc (.cells #[.int .i64 1, .int .i64 z] 24)) (.cells #[.int .i64 0, .int .i64 0] 24)
  replace h := Below.step h hA
  replace hx0 := hx0.kept hA
  replace hx1 := hx1.kept hA
  have hxr := Box.new ((w.alloc (.cells #[.int .i64 p, .int .i64 q] 24)).alloc (.cells #[.int .i64 1, .int .i64 z] 24)) 24 #[.int .i64 0, .int .i64 0]
  rw [show ((w.alloc (.cells #[.int .i64 p, .int .i64 q] 24)).alloc (.cells #[.int .i64 1, .int .i64 z] 24)).heap.size = w.heap.size + 1 + 1 from by simp] at hxr
  clear hA
  go_enter Tryd.func40, Tryd.ntmps40
  go_wp2_with fail
  refine (frMake_bd _ _ _ ?_ ?_ ?_ ?_).mono ?_
  case refine_1 => omega
  case refine_2 => omega
  case refine_3 => omega
  case refine_4 => omega
  rintro e w1 ⟨P, Q, B, hP, hQ, rfl, hb⟩
  replace h := Below.step h hb
  replace hx0 := hx0.kept hb
  replace hx1 := hx1.kept hb
  replace hxr := hxr.kept hb
  clear hb
  obtain ⟨ahx0, bhx0⟩ := hx0.two
  have lhx0 := hx0.lt
  obtain ⟨ahx1, bhx1⟩ := hx1.two
  have lhx1 := hx1.lt
  obtain ⟨ahxr, bhxr⟩ := hxr.two
  have lhxr := hxr.lt
  have f0 := hxr.free 0
  have f1 := hxr.free 1
  go_wp2_with fail
  refine bodyPost_ret (v := .tuple #[.agg #[.int .i64 (P), .int .i64 (Q)], .bool B]) (by simp [results, Tryd.results40, go_sem, ahxr, bhxr]) rfl ⟨P, Q, B, hP, hQ, rfl, ?_⟩
  exact (h.setCell (by first | (simp; done) | (simp; omega)) _).setCell (by first | (simp; done) | (simp; omega)) _

set_option maxHeartbeats 1000000 in
theorem frAdd_least (q z : Int) (w : World) (hq1 : -1 ≤ q) (hq2 : q ≤ 1000000001) (hz1 : 2 ≤ z) (hz2 : z ≤ 700) (hz3 : z % 2 = 0) :
    Calls Tryd.prog 40 #[.agg #[.int .i64 (-9223372036854775808), .int .i64 q], .agg #[.int .i64 1, .int .i64 z]] w (GivesSome w) := by
  have hw : wrap64 (-9223372036854775808 * z) = 0 := by unfold wrap64; omega
  have hw2 : wrap64 (-(9223372036854775808 * z)) = 0 := by unfold wrap64; omega
  have m2 := fr_mul_bd (a := q) (b := z) (M := 1000000001) (N := 700) (by omega) (by omega) (by omega) (by omega)
  rw [show ((1000000001 : Int) * 700) = 700000000700 from by decide] at m2
  obtain ⟨m2a, m2b⟩ := m2
  have h := Below.refl w.heap.size w
  have hA := below_alloc1 w (.cells #[.int .i64 (-9223372036854775808), .int .i64 q] 24)
  replace h := Below.step h hA
  have hx0 := Box.new w 24 #[.int .i64 (-9223372036854775808), .int .i64 q]
  clear hA
  have hA := below_alloc1 (w.alloc (.cells #[.int .i64 (-9223372036854775808), .int .i64 q] 24)) (.cells #[.int .i64 1, .int .i64 z] 24)
  replace h := Below.step h hA
  replace hx0 := hx0.kept hA
  have hx1 := Box.new (w.alloc (.cells #[.int .i64 (-9223372036854775808), .int .i64 q] 24)) 24 #[.int .i64 1, .int .i64 z]
  rw [show (w.alloc (.cells #[.int .i64 (-9223372036854775808), .int .i64 q] 24)).heap.size = w.heap.size + 1 from by simp] at hx1
  clear hA
  have hA := below_alloc1 ((w.alloc (.cells #[.int .i64 (-9223372036854775808), .int .i64 q] 24)).alloc (.cells #[.int .i64 1, .int .i64 z] 24)) (.cells #[.int .i64 0, .int .i64 0] 24)
  replace h := Below.step h hA
  replace hx0 := hx0.kept hA
  replace hx1 := hx1.kept hA
  have hxr := Box.new ((w.alloc (.cells #[.int .i64 (-9223372036854775808), .int .i64 q] 24)).alloc (.cells #[.int .i64 1, .int .i64 z] 24)) 24 #[.int .i64 0, .int .i64 0]
  rw [show ((w.alloc (.cells #[.int .i64 (-9223372036854775808), .int .i64 q] 24)).alloc (.cells #[.int .i64 1, .int .i64 z] 24)).heap.size = w.heap.size + 1 + 1 from by simp] at hxr
  clear hA
  go_enter Tryd.func40, Tryd.ntmps40
  go_wp2_with fail
  refine (frMake_bd _ _ _ ?_ ?_ ?_ ?_).mono ?_
  case refine_1 => omega
  case refine_2 => omega
  case refine_3 => omega
  case refine_4 => omega
  rintro e w1 ⟨P, Q, B, hP, hQ, rfl, hb⟩
  replace h := Below.step h hb
  replace hx0 := hx0.kept hb
  replace hx1 := hx1.kept hb
  replace hxr := hxr.kept hb
  clear hb
  obtain ⟨ahx0, bhx0⟩ := hx0.two
  have lhx0 := hx0.lt
  obtain ⟨ahx1, bhx1⟩ := hx1.two
  have lhx1 := hx1.lt
  obtain ⟨ahxr, bhxr⟩ := hxr.two
  have lhxr := hxr.lt
  have f0 := hxr.free 0
  have f1 := hxr.free 1
  go_wp2_with fail
  refine bodyPost_ret (v := .tuple #[.agg #[.int .i64 (P), .int .i64 (Q)], .bool B]) (by simp [results, Tryd.results40, go_sem, ahxr, bhxr]) rfl ⟨P, Q, B, hP, hQ, rfl, ?_⟩
  exact (h.setCell (by first | (simp; done) | (simp; omega)) _).setCell (by first | (simp; done) | (simp; omega)) _

theorem frAdd_sm (p q z : Int) (w : World) (hp : p = -9223372036854775808 ∨ (-1000000001 ≤ p ∧ p ≤ 1000000001)) (hq : -1 ≤ q ∧ q ≤ 1000000001) (hz : 2 ≤ z ∧ z ≤ 700 ∧ z % 2 = 0) :
    Calls Tryd.prog 40 #[.agg #[.int .i64 p, .int .i64 q], .agg #[.int .i64 1, .int .i64 z]] w (GivesSome w) := by
  rcases hp with rfl | ⟨h1, h2⟩
  · exact frAdd_least q z w hq.1 hq.2 hz.1 hz.2.1 hz.2.2
  · exact frAdd_small p q z w h1 h2 hq.1 hq.2 hz.1 hz.2.1
end Go.Proofs.YtchglkcfolannabDoor
