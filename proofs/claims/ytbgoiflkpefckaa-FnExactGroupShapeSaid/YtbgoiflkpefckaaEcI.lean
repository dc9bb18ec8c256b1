/- The program's IsCurve, DiscriminantOf, RealParts, IsIntegerPoint (written by wip/gen/eci.py). -/
import Derived.Test.YtbgoiflkpefckaaEcForm
import Derived.Test.YtbgoiflkpefckaaEcMin
namespace Go.Proofs.Ytbgoiflkpefckaa
open Go.RowKit Go.Joins

set_option maxHeartbeats 1000000 in
theorem isCurveI_yes (a b : Int) (w : World) (g : EcG a b) : Calls Try.prog 44 #[.agg #[.int .i64 a, .int .i64 b]] w (GivesB w true) := by
  obtain ⟨ha, hb, g0⟩ := g
  obtain ⟨a1, a2⟩ := ha
  obtain ⟨b1, b2⟩ := hb
  obtain ⟨T, V, fc, fa, hF, hf⟩ := formOf_any a b ⟨a1, a2⟩ ⟨b1, b2⟩
  have n1 := hF.nc
  have m1 := hF.mc
  have e1 := hF.ec
  have c1 := hF.cc
  replace c1 := Lib.hid c1
  replace hf := Lib.hid hf
  clear hF
  obtain ⟨D, hD⟩ : ∃ D, ecD a b = D := ⟨_, rfl⟩
  rw [hD] at c1 g0
  have e2 : (D != 0) = true := by simp [g0]
  clear hD g0
  have h := Below.refl w.heap.size w
  have hA := below_alloc1 w (.cells #[.int .i64 a, .int .i64 b] 26)
  have hx0 := Box.new w 26 #[.int .i64 a, .int .i64 b]
  replace h := Below.step h hA
  clear hA
  obtain ⟨k00, k01⟩ := hx0.two
  have l0 := hx0.lt
  go_enter Try.func44, Try.ntmps44
  go_wp2_with fail
  refine (hf.out _).mono ?_
  rintro e w1 ⟨rfl, hb⟩
  replace h := Below.step h hb
  replace hx0 := hx0.kept hb
  clear hb k00 k01 l0
  obtain ⟨k00, k01⟩ := hx0.two
  have l0 := hx0.lt
  go_wp2_with fail
  refine (c1.out _).mono ?_
  rintro e w2 ⟨rfl, hb⟩
  replace h := Below.step h hb
  replace hx0 := hx0.kept hb
  clear hb k00 k01 l0
  obtain ⟨k00, k01⟩ := hx0.two
  have l0 := hx0.lt
  go_wp2_with fail
  go_ret
  exact ⟨rfl, h⟩


set_option maxHeartbeats 1000000 in
theorem isCurveI_0 (a b : Int) (w : World) (ha : -1000 ≤ a ∧ a ≤ 1000) (hb : -10000 ≤ b ∧ b ≤ 10000) (g : ecD a b = 0) : Calls Try.prog 44 #[.agg #[.int .i64 a, .int .i64 b]] w (GivesB w false) := by
  obtain ⟨a1, a2⟩ := ha
  obtain ⟨b1, b2⟩ := hb
  obtain ⟨T, V, fc, fa, hF, hf⟩ := formOf_any a b ⟨a1, a2⟩ ⟨b1, b2⟩
  have n1 := hF.nc
  have m1 := hF.mc
  have e1 := hF.ec
  have c1 := hF.cc
  replace c1 := Lib.hid c1
  replace hf := Lib.hid hf
  clear hF
  obtain ⟨D, hD⟩ : ∃ D, ecD a b = D := ⟨_, rfl⟩
  rw [g] at hD
  subst hD
  rw [g] at c1
  clear g
  have h := Below.refl w.heap.size w
  have hA := below_alloc1 w (.cells #[.int .i64 a, .int .i64 b] 26)
  have hx0 := Box.new w 26 #[.int .i64 a, .int .i64 b]
  replace h := Below.step h hA
  clear hA
  obtain ⟨k00, k01⟩ := hx0.two
  have l0 := hx0.lt
  go_enter Try.func44, Try.ntmps44
  go_wp2_with fail
  refine (hf.out _).mono ?_
  rintro e w1 ⟨rfl, hb⟩
  replace h := Below.step h hb
  replace hx0 := hx0.kept hb
  clear hb k00 k01 l0
  obtain ⟨k00, k01⟩ := hx0.two
  have l0 := hx0.lt
  go_wp2_with fail
  refine (c1.out _).mono ?_
  rintro e w2 ⟨rfl, hb⟩
  replace h := Below.step h hb
  replace hx0 := hx0.kept hb
  clear hb k00 k01 l0
  obtain ⟨k00, k01⟩ := hx0.two
  have l0 := hx0.lt
  go_wp2_with fail
  go_ret
  exact ⟨rfl, h⟩


set_option maxHeartbeats 1000000 in
theorem isCurveI_a1 (a b : Int) (w : World) (g : a < -1000) : Calls Try.prog 44 #[.agg #[.int .i64 a, .int .i64 b]] w (GivesB w false) := by
  have e3 : decide (-1000 ≤ a) = false := decide_eq_false (by omega)
  have h := Below.refl w.heap.size w
  have hA := below_alloc1 w (.cells #[.int .i64 a, .int .i64 b] 26)
  have hx0 := Box.new w 26 #[.int .i64 a, .int .i64 b]
  replace h := Below.step h hA
  clear hA
  obtain ⟨k00, k01⟩ := hx0.two
  have l0 := hx0.lt
  go_enter Try.func44, Try.ntmps44
  go_wp2_with fail
  go_ret
  exact ⟨rfl, h⟩


set_option maxHeartbeats 1000000 in
theorem isCurveI_a2 (a b : Int) (w : World) (g : 1000 < a) : Calls Try.prog 44 #[.agg #[.int .i64 a, .int .i64 b]] w (GivesB w false) := by
  have e3 : decide (a ≤ 1000) = false := decide_eq_false (by omega)
  have h := Below.refl w.heap.size w
  have hA := below_alloc1 w (.cells #[.int .i64 a, .int .i64 b] 26)
  have hx0 := Box.new w 26 #[.int .i64 a, .int .i64 b]
  replace h := Below.step h hA
  clear hA
  obtain ⟨k00, k01⟩ := hx0.two
  have l0 := hx0.lt
  go_enter Try.func44, Try.ntmps44
  go_wp2_with fail
  go_ret
  exact ⟨rfl, h⟩


set_option maxHeartbeats 1000000 in
theorem isCurveI_b1 (a b : Int) (w : World) (a1 : -1000 ≤ a) (a2 : a ≤ 1000) (g : b < -10000) : Calls Try.prog 44 #[.agg #[.int .i64 a, .int .i64 b]] w (GivesB w false) := by
  have e3 : decide (-10000 ≤ b) = false := decide_eq_false (by omega)
  have h := Below.refl w.heap.size w
  have hA := below_alloc1 w (.cells #[.int .i64 a, .int .i64 b] 26)
  have hx0 := Box.new w 26 #[.int .i64 a, .int .i64 b]
  replace h := Below.step h hA
  clear hA
  obtain ⟨k00, k01⟩ := hx0.two
  have l0 := hx0.lt
  go_enter Try.func44, Try.ntmps44
  go_wp2_with fail
  go_ret
  exact ⟨rfl, h⟩


set_option maxHeartbeats 1000000 in
theorem isCurveI_b2 (a b : Int) (w : World) (a1 : -1000 ≤ a) (a2 : a ≤ 1000) (g : 10000 < b) : Calls Try.prog 44 #[.agg #[.int .i64 a, .int .i64 b]] w (GivesB w false) := by
  have e3 : decide (b ≤ 10000) = false := decide_eq_false (by omega)
  have h := Below.refl w.heap.size w
  have hA := below_alloc1 w (.cells #[.int .i64 a, .int .i64 b] 26)
  have hx0 := Box.new w 26 #[.int .i64 a, .int .i64 b]
  replace h := Below.step h hA
  clear hA
  obtain ⟨k00, k01⟩ := hx0.two
  have l0 := hx0.lt
  go_enter Try.func44, Try.ntmps44
  go_wp2_with fail
  go_ret
  exact ⟨rfl, h⟩


theorem isCurveI_any (a b : Int) (w : World) : Calls Try.prog 44 #[.agg #[.int .i64 a, .int .i64 b]] w (GivesB w (decide (EcG a b))) := by
  by_cases g : EcG a b
  · rw [decide_eq_true g]; exact isCurveI_yes a b w g
  · rw [decide_eq_false g]
    by_cases a1 : -1000 ≤ a
    · by_cases a2 : a ≤ 1000
      · by_cases b1 : -10000 ≤ b
        · by_cases b2 : b ≤ 10000
          · exact isCurveI_0 a b w ⟨a1, a2⟩ ⟨b1, b2⟩ (Classical.byContradiction fun k => g ⟨⟨a1, a2⟩, ⟨b1, b2⟩, k⟩)
          · exact isCurveI_b2 a b w a1 a2 (by omega)
        · exact isCurveI_b1 a b w a1 a2 (by omega)
      · exact isCurveI_a2 a b w (by omega)
    · exact isCurveI_a1 a b w (by omega)
theorem isCurveI_no (a b : Int) (w : World) (g : ¬ EcG a b) : Calls Try.prog 44 #[.agg #[.int .i64 a, .int .i64 b]] w (GivesB w false) := by
  have := isCurveI_any a b w
  rwa [decide_eq_false g] at this

end Go.Proofs.Ytbgoiflkpefckaa
