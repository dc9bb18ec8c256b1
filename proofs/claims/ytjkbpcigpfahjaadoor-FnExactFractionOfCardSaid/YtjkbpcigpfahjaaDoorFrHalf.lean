/- FractionOf, IsLess, FloorAndRest, FractionHeight: the model's and the program's, and the laws (written by wip/gen/frhalf.py). -/
import Derived.Test.YtjkbpcigpfahjaaDoorFrOps
import Derived.Test.YtjkbpcigpfahjaaDoorFrLFractionOf
import Derived.Test.YtjkbpcigpfahjaaDoorFrLIsLess
import Derived.Test.YtjkbpcigpfahjaaDoorFrLFloorAndRest
import Derived.Test.YtjkbpcigpfahjaaDoorFrLFractionHeight
namespace Go.Proofs.YtjkbpcigpfahjaaDoor
open Go.RowKit Go.Joins

theorem ret_int' {k : IntKind} {a b : Int} (h : a = b) : Ending.returned (.int k a) = .returned (.int k b) := by rw [h]

set_option maxHeartbeats 1000000 in
theorem fractionOfS_yes (z0 z1 : Int) (w : World) (h1 : -1000000000000000000 ≤ z0) (h2 : z0 ≤ 1000000000000000000) (h3 : -1000000000000000000 ≤ z1) (h4 : z1 ≤ 1000000000000000000) (hne : z1 ≠ 0) :
    Calls Tryd.prog 9 #[.int .i64 z0, .int .i64 z1] w (GivesFB w (lowRP z0 z1) (lowRQ z0 z1) (lowB z0 z1)) := by
  obtain ⟨P, hP⟩ : ∃ P, P = lowRP z0 z1 := ⟨_, rfl⟩
  obtain ⟨Q, hQ⟩ : ∃ Q, Q = lowRQ z0 z1 := ⟨_, rfl⟩
  obtain ⟨B, hB⟩ : ∃ B, B = lowB z0 z1 := ⟨_, rfl⟩
  have c1 := fun (W : World) => frMake_any z0 z1 W (by omega) (by omega) (by omega) (by omega)
  rw [← hP, ← hQ, ← hB] at c1
  rw [← hP, ← hQ, ← hB]
  replace c1 := Lib.hid c1
  clear hP hQ hB
  have ez : (z1 == 0) = false := beq_eq_false_iff_ne.2 hne
  clear hne
  have h := Below.refl w.heap.size w
  have hA := below_alloc1 w (.cells #[.int .i64 0, .int .i64 0] 23)
  replace h := Below.step h hA
  have hxr := Box.new w 23 #[.int .i64 0, .int .i64 0]
  clear hA
  go_enter Tryd.func9, Tryd.ntmps9
  go_wp2_with fail
  refine (l1In_yes _ _ _ _ (by omega) (by omega)).mono ?_
  rintro e w' ⟨rfl, rfl⟩
  go_wp2_with fail
  refine (l1In_yes _ _ _ _ (by omega) (by omega)).mono ?_
  rintro e w' ⟨rfl, rfl⟩
  go_wp2_with fail
  refine (c1.out _).mono ?_
  rintro e w1 ⟨rfl, hb⟩
  replace h := Below.step h hb
  replace hxr := hxr.kept hb
  clear hb
  obtain ⟨ahxr, bhxr⟩ := hxr.two
  have lhxr := hxr.lt
  have f0 := hxr.free 0
  have f1 := hxr.free 1
  go_wp2_with fail
  refine bodyPost_ret (v := .tuple #[.agg #[.int .i64 (P), .int .i64 (Q)], .bool B]) (by simp [results, Tryd.results9, go_sem, ahxr, bhxr]) rfl ⟨rfl, ?_⟩
  exact (h.setCell (by first | (simp; done) | (simp; omega)) _).setCell (by first | (simp; done) | (simp; omega)) _

set_option maxHeartbeats 1000000 in
theorem fractionOfS_no0 (z0 z1 : Int) (w : World) (hz : z0 < -1000000000000000000 ∨ 1000000000000000000 < z0) :
    Calls Tryd.prog 9 #[.int .i64 z0, .int .i64 z1] w (GivesFB w 0 0 false) := by
  have h := Below.refl w.heap.size w
  have hA := below_alloc1 w (.cells #[.int .i64 0, .int .i64 0] 23)
  replace h := Below.step h hA
  have hxr := Box.new w 23 #[.int .i64 0, .int .i64 0]
  clear hA
  go_enter Tryd.func9, Tryd.ntmps9
  go_wp2_with fail
  refine (l1In_no _ _ _ _ (by omega)).mono ?_
  rintro e w' ⟨rfl, rfl⟩
  go_wp2_with fail
  refine bodyPost_ret (v := .tuple #[.agg #[.int .i64 (0), .int .i64 (0)], .bool false]) (by simp [results, Tryd.results9, go_sem]) rfl ⟨rfl, ?_⟩
  first | exact h | exact (h.setCell (by first | (simp; done) | (simp; omega)) _).setCell (by first | (simp; done) | (simp; omega)) _

set_option maxHeartbeats 1000000 in
theorem fractionOfS_no1 (z0 z1 : Int) (w : World) (h1 : -1000000000000000000 ≤ z0) (h2 : z0 ≤ 1000000000000000000) (hz : z1 < -1000000000000000000 ∨ 1000000000000000000 < z1) :
    Calls Tryd.prog 9 #[.int .i64 z0, .int .i64 z1] w (GivesFB w 0 0 false) := by
  have h := Below.refl w.heap.size w
  have hA := below_alloc1 w (.cells #[.int .i64 0, .int .i64 0] 23)
  replace h := Below.step h hA
  have hxr := Box.new w 23 #[.int .i64 0, .int .i64 0]
  clear hA
  go_enter Tryd.func9, Tryd.ntmps9
  go_wp2_with fail
  refine (l1In_yes _ _ _ _ (by omega) (by omega)).mono ?_
  rintro e w' ⟨rfl, rfl⟩
  go_wp2_with fail
  refine (l1In_no _ _ _ _ (by omega)).mono ?_
  rintro e w' ⟨rfl, rfl⟩
  go_wp2_with fail
  refine bodyPost_ret (v := .tuple #[.agg #[.int .i64 (0), .int .i64 (0)], .bool false]) (by simp [results, Tryd.results9, go_sem]) rfl ⟨rfl, ?_⟩
  first | exact h | exact (h.setCell (by first | (simp; done) | (simp; omega)) _).setCell (by first | (simp; done) | (simp; omega)) _

set_option maxHeartbeats 1000000 in
theorem fractionOfS_zero (z0 : Int) (w : World) (h1 : -1000000000000000000 ≤ z0) (h2 : z0 ≤ 1000000000000000000) :
    Calls Tryd.prog 9 #[.int .i64 z0, .int .i64 0] w (GivesFB w 0 0 false) := by
  have h := Below.refl w.heap.size w
  have hA := below_alloc1 w (.cells #[.int .i64 0, .int .i64 0] 23)
  replace h := Below.step h hA
  have hxr := Box.new w 23 #[.int .i64 0, .int .i64 0]
  clear hA
  go_enter Tryd.func9, Tryd.ntmps9
  go_wp2_with fail
  refine (l1In_yes _ _ _ _ (by omega) (by omega)).mono ?_
  rintro e w' ⟨rfl, rfl⟩
  go_wp2_with fail
  refine (l1In_yes _ _ _ _ (by omega) (by omega)).mono ?_
  rintro e w' ⟨rfl, rfl⟩
  go_wp2_with fail
  refine bodyPost_ret (v := .tuple #[.agg #[.int .i64 (0), .int .i64 (0)], .bool false]) (by simp [results, Tryd.results9, go_sem]) rfl ⟨rfl, ?_⟩
  first | exact h | exact (h.setCell (by first | (simp; done) | (simp; omega)) _).setCell (by first | (simp; done) | (simp; omega)) _

set_option maxHeartbeats 1000000 in
theorem fractionOfI_yes (z0 z1 : Int) (w : World) (hL : Lim w) (h1 : -1000000000000000000 ≤ z0) (h2 : z0 ≤ 1000000000000000000) (h3 : -1000000000000000000 ≤ z1) (h4 : z1 ≤ 1000000000000000000) (hne : z1 ≠ 0) :
    Calls Tryd.prog 10 #[.int .i64 z0, .int .i64 z1] w (GivesFB w (lowRP z0 z1) (lowRQ z0 z1) (lowB z0 z1)) := by
  obtain ⟨P, hP⟩ : ∃ P, P = lowRP z0 z1 := ⟨_, rfl⟩
  obtain ⟨Q, hQ⟩ : ∃ Q, Q = lowRQ z0 z1 := ⟨_, rfl⟩
  obtain ⟨B, hB⟩ : ∃ B, B = lowB z0 z1 := ⟨_, rfl⟩
  have c1 := fun (W : World) (hL : Lim W) => inLowest_any z0 z1 W hL (by omega) (by omega) (by omega) (by omega) hne
  rw [← hP, ← hQ, ← hB] at c1
  rw [← hP, ← hQ, ← hB]
  replace c1 := Lib.hid c1
  clear hP hQ hB
  have ez : (z1 == 0) = false := beq_eq_false_iff_ne.2 hne
  clear hne
  have h := Below.refl w.heap.size w
  have hA := below_alloc1 w (.cells #[.int .i64 0, .int .i64 0] 23)
  replace h := Below.step h hA
  have hxr := Box.new w 23 #[.int .i64 0, .int .i64 0]
  clear hA
  obtain ⟨-, t1, -⟩ := hL.kept h
  go_enter Tryd.func10, Tryd.ntmps10
  go_wp2_with fail
  refine (isWithin1_yes _ _ (by exact t1) (by omega) (by omega)).mono ?_
  rintro e w' ⟨rfl, rfl⟩
  go_wp2_with fail
  refine (isWithin1_yes _ _ (by exact t1) (by omega) (by omega)).mono ?_
  rintro e w' ⟨rfl, rfl⟩
  go_wp2_with fail
  refine (c1.out _ (by exact hL.kept h)).mono ?_
  rintro e w1 ⟨rfl, hb⟩
  replace h := Below.step h hb
  replace hxr := hxr.kept hb
  clear hb
  obtain ⟨ahxr, bhxr⟩ := hxr.two
  have lhxr := hxr.lt
  have f0 := hxr.free 0
  have f1 := hxr.free 1
  go_wp2_with fail
  refine bodyPost_ret (v := .tuple #[.agg #[.int .i64 (P), .int .i64 (Q)], .bool B]) (by simp [results, Tryd.results10, go_sem, ahxr, bhxr]) rfl ⟨rfl, ?_⟩
  exact (h.setCell (by first | (simp; done) | (simp; omega)) _).setCell (by first | (simp; done) | (simp; omega)) _

set_option maxHeartbeats 1000000 in
theorem fractionOfI_no0 (z0 z1 : Int) (w : World) (hL : Lim w) (hz : z0 < -1000000000000000000 ∨ 1000000000000000000 < z0) :
    Calls Tryd.prog 10 #[.int .i64 z0, .int .i64 z1] w (GivesFB w 0 0 false) := by
  have h := Below.refl w.heap.size w
  have hA := below_alloc1 w (.cells #[.int .i64 0, .int .i64 0] 23)
  replace h := Below.step h hA
  have hxr := Box.new w 23 #[.int .i64 0, .int .i64 0]
  clear hA
  obtain ⟨-, t1, -⟩ := hL.kept h
  go_enter Tryd.func10, Tryd.ntmps10
  go_wp2_with fail
  refine (isWithin1_no _ _ (by exact t1) (by omega)).mono ?_
  rintro e w' ⟨rfl, rfl⟩
  go_wp2_with fail
  refine bodyPost_ret (v := .tuple #[.agg #[.int .i64 (0), .int .i64 (0)], .bool false]) (by simp [results, Tryd.results10, go_sem]) rfl ⟨rfl, ?_⟩
  first | exact h | exact (h.setCell (by first | (simp; done) | (simp; omega)) _).setCell (by first | (simp; done) | (simp; omega)) _

set_option maxHeartbeats 1000000 in
theorem fractionOfI_no1 (z0 z1 : Int) (w : World) (hL : Lim w) (h1 : -1000000000000000000 ≤ z0) (h2 : z0 ≤ 1000000000000000000) (hz : z1 < -1000000000000000000 ∨ 1000000000000000000 < z1) :
    Calls Tryd.prog 10 #[.int .i64 z0, .int .i64 z1] w (GivesFB w 0 0 false) := by
  have h := Below.refl w.heap.size w
  have hA := below_alloc1 w (.cells #[.int .i64 0, .int .i64 0] 23)
  replace h := Below.step h hA
  have hxr := Box.new w 23 #[.int .i64 0, .int .i64 0]
  clear hA
  obtain ⟨-, t1, -⟩ := hL.kept h
  go_enter Tryd.func10, Tryd.ntmps10
  go_wp2_with fail
  refine (isWithin1_yes _ _ (by exact t1) (by omega) (by omega)).mono ?_
  rintro e w' ⟨rfl, rfl⟩
  go_wp2_with fail
  refine (isWithin1_no _ _ (by exact t1) (by omega)).mono ?_
  rintro e w' ⟨rfl, rfl⟩
  go_wp2_with fail
  refine bodyPost_ret (v := .tuple #[.agg #[.int .i64 (0), .int .i64 (0)], .bool false]) (by simp [results, Tryd.results10, go_sem]) rfl ⟨rfl, ?_⟩
  first | exact h | exact (h.setCell (by first | (simp; done) | (simp; omega)) _).setCell (by first | (simp; done) | (simp; omega)) _

set_option maxHeartbeats 1000000 in
theorem fractionOfI_zero (z0 : Int) (w : World) (hL : Lim w) (h1 : -1000000000000000000 ≤ z0) (h2 : z0 ≤ 1000000000000000000) :
    Calls Tryd.prog 10 #[.int .i64 z0, .int .i64 0] w (GivesFB w 0 0 false) := by
  have h := Below.refl w.heap.size w
  have hA := below_alloc1 w (.cells #[.int .i64 0, .int .i64 0] 23)
  replace h := Below.step h hA
  have hxr := Box.new w 23 #[.int .i64 0, .int .i64 0]
  clear hA
  obtain ⟨-, t1, -⟩ := hL.kept h
  go_enter Tryd.func10, Tryd.ntmps10
  go_wp2_with fail
  refine (isWithin1_yes _ _ (by exact t1) (by omega) (by omega)).mono ?_
  rintro e w' ⟨rfl, rfl⟩
  go_wp2_with fail
  refine (isWithin1_yes _ _ (by exact t1) (by omega) (by omega)).mono ?_
  rintro e w' ⟨rfl, rfl⟩
  go_wp2_with fail
  refine bodyPost_ret (v := .tuple #[.agg #[.int .i64 (0), .int .i64 (0)], .bool false]) (by simp [results, Tryd.results10, go_sem]) rfl ⟨rfl, ?_⟩
  first | exact h | exact (h.setCell (by first | (simp; done) | (simp; omega)) _).setCell (by first | (simp; done) | (simp; omega)) _

theorem lawFractionOf_any (z0 z1 : Int) (w : World) (hL : Lim w) (_ : -9223372036854775808 ≤ z0 ∧ z0 ≤ 9223372036854775807) (_ : -9223372036854775808 ≤ z1 ∧ z1 ≤ 9223372036854775807) :
    Calls Tryd.prog 3 #[.int .i64 z0, .int .i64 z1] w fun e w' => e = .returned (.bool true) ∧ Below w.heap.size w w' := by
  by_cases h0 : -1000000000000000000 ≤ z0 ∧ z0 ≤ 1000000000000000000
  · by_cases h1 : -1000000000000000000 ≤ z1 ∧ z1 ≤ 1000000000000000000
    · by_cases hz : z1 = 0
      · subst hz
        exact lawFractionOf_core z0 0 w hL 0 0 false (fun W => fractionOfS_zero z0 W h0.1 h0.2) (fun W hL => fractionOfI_zero z0 W hL h0.1 h0.2)
      · exact lawFractionOf_core z0 z1 w hL _ _ _ (fun W => fractionOfS_yes z0 z1 W h0.1 h0.2 h1.1 h1.2 hz) (fun W hL => fractionOfI_yes z0 z1 W hL h0.1 h0.2 h1.1 h1.2 hz)
    · exact lawFractionOf_core z0 z1 w hL 0 0 false (fun W => fractionOfS_no1 z0 z1 W h0.1 h0.2 (by omega)) (fun W hL => fractionOfI_no1 z0 z1 W hL h0.1 h0.2 (by omega))
  · exact lawFractionOf_core z0 z1 w hL 0 0 false (fun W => fractionOfS_no0 z0 z1 W (by omega)) (fun W hL => fractionOfI_no0 z0 z1 W hL (by omega))

end Go.Proofs.YtjkbpcigpfahjaaDoor
