/- The model's ecDisc, ecGood, IsCurve, DiscriminantOf, RealParts, ecValue, IsIntegerPoint (written by wip/gen/ecs.py). -/
import Derived.Test.YtbgoiflkpefckaaEcBox
import Derived.Test.YtbgoiflkpefckaaCuIn
namespace Go.Proofs.Ytbgoiflkpefckaa
open Go.RowKit Go.Joins

set_option maxHeartbeats 1000000 in
theorem ecDisc_any (a b : Int) (w : World) (ha : -1000 ≤ a ∧ a ≤ 1000) (hb : -10000 ≤ b ∧ b ≤ 10000) (D : Int) (hD : ecD a b = D) : Calls Try.prog 68 #[.agg #[.int .i64 a, .int .i64 b]] w (GivesI w D) := by
  obtain ⟨⟨p1, p2⟩, ⟨p3, p4⟩, ⟨p5, p6⟩, ⟨p7, p8⟩⟩ := ecD_bd ha hb
  replace hD := Lib.hid hD
  have h := Below.refl w.heap.size w
  have hA := below_alloc1 w (.cells #[.int .i64 a, .int .i64 b] 26)
  have hx0 := Box.new w 26 #[.int .i64 a, .int .i64 b]
  replace h := Below.step h hA
  clear hA
  obtain ⟨k00, k01⟩ := hx0.two
  have l0 := hx0.lt
  go_enter Try.func68, Try.ntmps68
  go_wp2_with fail
  go_ret
  exact ⟨congrArg (fun z => Ending.returned (.int .i64 z)) hD.out, h⟩


set_option maxHeartbeats 1000000 in
theorem ecGood_yes (a b : Int) (w : World) (g : EcG a b) : Calls Try.prog 41 #[.agg #[.int .i64 a, .int .i64 b]] w (GivesB w true) := by
  obtain ⟨⟨a1, a2⟩, ⟨b1, b2⟩, g0⟩ := g
  obtain ⟨D, hD⟩ : ∃ D, ecD a b = D := ⟨_, rfl⟩
  rw [hD] at g0
  have key := fun W => ecDisc_any a b W ⟨a1, a2⟩ ⟨b1, b2⟩ D hD
  have e1 : (D != 0) = true := by simp [g0]
  clear hD g0
  replace key := Lib.hid key
  have h := Below.refl w.heap.size w
  have hA := below_alloc1 w (.cells #[.int .i64 a, .int .i64 b] 26)
  have hx0 := Box.new w 26 #[.int .i64 a, .int .i64 b]
  replace h := Below.step h hA
  clear hA
  obtain ⟨k00, k01⟩ := hx0.two
  have l0 := hx0.lt
  go_enter Try.func41, Try.ntmps41
  go_wp2_with fail
  refine (l1In_yes a (-1000) 1000 _ a1 a2).mono ?_
  rintro e w1 ⟨rfl, rfl⟩
  go_wp2_with fail
  refine (l1In_yes b (-10000) 10000 _ b1 b2).mono ?_
  rintro e w2 ⟨rfl, rfl⟩
  go_wp2_with fail
  refine (key.out _).mono ?_
  rintro e w3 ⟨rfl, hb⟩
  replace h := Below.step h hb
  replace hx0 := hx0.kept hb
  clear hb k00 k01 l0
  obtain ⟨k00, k01⟩ := hx0.two
  have l0 := hx0.lt
  go_wp2_with fail
  go_ret
  exact ⟨rfl, h⟩


set_option maxHeartbeats 1000000 in
theorem ecGood_a (a b : Int) (w : World) (g : a < -1000 ∨ 1000 < a) : Calls Try.prog 41 #[.agg #[.int .i64 a, .int .i64 b]] w (GivesB w false) := by
  have h := Below.refl w.heap.size w
  have hA := below_alloc1 w (.cells #[.int .i64 a, .int .i64 b] 26)
  have hx0 := Box.new w 26 #[.int .i64 a, .int .i64 b]
  replace h := Below.step h hA
  clear hA
  obtain ⟨k00, k01⟩ := hx0.two
  have l0 := hx0.lt
  go_enter Try.func41, Try.ntmps41
  go_wp2_with fail
  refine (l1In_no a (-1000) 1000 _ g).mono ?_
  rintro e w1 ⟨rfl, rfl⟩
  go_wp2_with fail
  go_ret
  exact ⟨rfl, h⟩


set_option maxHeartbeats 1000000 in
theorem ecGood_b (a b : Int) (w : World) (ha : -1000 ≤ a ∧ a ≤ 1000) (g : b < -10000 ∨ 10000 < b) : Calls Try.prog 41 #[.agg #[.int .i64 a, .int .i64 b]] w (GivesB w false) := by
  obtain ⟨a1, a2⟩ := ha
  have h := Below.refl w.heap.size w
  have hA := below_alloc1 w (.cells #[.int .i64 a, .int .i64 b] 26)
  have hx0 := Box.new w 26 #[.int .i64 a, .int .i64 b]
  replace h := Below.step h hA
  clear hA
  obtain ⟨k00, k01⟩ := hx0.two
  have l0 := hx0.lt
  go_enter Try.func41, Try.ntmps41
  go_wp2_with fail
  refine (l1In_yes a (-1000) 1000 _ a1 a2).mono ?_
  rintro e w1 ⟨rfl, rfl⟩
  go_wp2_with fail
  refine (l1In_no b (-10000) 10000 _ g).mono ?_
  rintro e w2 ⟨rfl, rfl⟩
  go_wp2_with fail
  go_ret
  exact ⟨rfl, h⟩


set_option maxHeartbeats 1000000 in
theorem ecGood_0 (a b : Int) (w : World) (ha : -1000 ≤ a ∧ a ≤ 1000) (hb : -10000 ≤ b ∧ b ≤ 10000) (g : ecD a b = 0) : Calls Try.prog 41 #[.agg #[.int .i64 a, .int .i64 b]] w (GivesB w false) := by
  obtain ⟨a1, a2⟩ := ha
  obtain ⟨b1, b2⟩ := hb
  have key := fun W => ecDisc_any a b W ⟨a1, a2⟩ ⟨b1, b2⟩ 0 g
  clear g
  replace key := Lib.hid key
  have h := Below.refl w.heap.size w
  have hA := below_alloc1 w (.cells #[.int .i64 a, .int .i64 b] 26)
  have hx0 := Box.new w 26 #[.int .i64 a, .int .i64 b]
  replace h := Below.step h hA
  clear hA
  obtain ⟨k00, k01⟩ := hx0.two
  have l0 := hx0.lt
  go_enter Try.func41, Try.ntmps41
  go_wp2_with fail
  refine (l1In_yes a (-1000) 1000 _ a1 a2).mono ?_
  rintro e w1 ⟨rfl, rfl⟩
  go_wp2_with fail
  refine (l1In_yes b (-10000) 10000 _ b1 b2).mono ?_
  rintro e w2 ⟨rfl, rfl⟩
  go_wp2_with fail
  refine (key.out _).mono ?_
  rintro e w3 ⟨rfl, hb⟩
  replace h := Below.step h hb
  replace hx0 := hx0.kept hb
  clear hb k00 k01 l0
  obtain ⟨k00, k01⟩ := hx0.two
  have l0 := hx0.lt
  go_wp2_with fail
  go_ret
  exact ⟨rfl, h⟩


theorem ecGood_any (a b : Int) (w : World) : Calls Try.prog 41 #[.agg #[.int .i64 a, .int .i64 b]] w (GivesB w (decide (EcG a b))) := by
  by_cases g : EcG a b
  · rw [decide_eq_true g]; exact ecGood_yes a b w g
  · rw [decide_eq_false g]
    by_cases ha : -1000 ≤ a ∧ a ≤ 1000
    · by_cases hb : -10000 ≤ b ∧ b ≤ 10000
      · exact ecGood_0 a b w ha hb (Classical.byContradiction fun k => g ⟨ha, hb, k⟩)
      · exact ecGood_b a b w ha (by omega)
    · exact ecGood_a a b w (by omega)
theorem ecGood_no (a b : Int) (w : World) (g : ¬ EcG a b) : Calls Try.prog 41 #[.agg #[.int .i64 a, .int .i64 b]] w (GivesB w false) := by
  have := ecGood_any a b w
  rwa [decide_eq_false g] at this

end Go.Proofs.Ytbgoiflkpefckaa
