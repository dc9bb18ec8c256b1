/- The model's ecDisc, ecGood, IsCurve, DiscriminantOf, RealParts, ecValue, IsIntegerPoint (written by wip/gen/ecs.py). -/
import Derived.Test.YtmknmjkcnlennaaEcBox
import Derived.Test.YtmknmjkcnlennaaCuIn
namespace Go.Proofs.Ytmknmjkcnlennaa
open Go.RowKit Go.Joins

set_option maxHeartbeats 1000000 in
theorem ecDisc_any (a b : Int) (w : World) (ha : -1000 ≤ a ∧ a ≤ 1000) (hb : -10000 ≤ b ∧ b ≤ 10000) (D : Int) (hD : ecD a b = D) : Calls Try.prog 40 #[.agg #[.int .i64 a, .int .i64 b]] w (GivesI w D) := by
  obtain ⟨⟨p1, p2⟩, ⟨p3, p4⟩, ⟨p5, p6⟩, ⟨p7, p8⟩⟩ := ecD_bd ha hb
  replace hD := Lib.hid hD
  have h := Below.refl w.heap.size w
  have hA := below_alloc1 w (.cells #[.int .i64 a, .int .i64 b] 25)
  have hx0 := Box.new w 25 #[.int .i64 a, .int .i64 b]
  replace h := Below.step h hA
  clear hA
  obtain ⟨k00, k01⟩ := hx0.two
  have l0 := hx0.lt
  go_enter Try.func40, Try.ntmps40
  go_wp2_with fail
  go_ret
  exact ⟨congrArg (fun z => Ending.returned (.int .i64 z)) hD.out, h⟩


set_option maxHeartbeats 1000000 in
theorem ecGood_yes (a b : Int) (w : World) (g : EcG a b) : Calls Try.prog 38 #[.agg #[.int .i64 a, .int .i64 b]] w (GivesB w true) := by
  obtain ⟨⟨a1, a2⟩, ⟨b1, b2⟩, g0⟩ := g
  obtain ⟨D, hD⟩ : ∃ D, ecD a b = D := ⟨_, rfl⟩
  rw [hD] at g0
  have key := fun W => ecDisc_any a b W ⟨a1, a2⟩ ⟨b1, b2⟩ D hD
  have e1 : (D != 0) = true := by simp [g0]
  clear hD g0
  replace key := Lib.hid key
  have h := Below.refl w.heap.size w
  have hA := below_alloc1 w (.cells #[.int .i64 a, .int .i64 b] 25)
  have hx0 := Box.new w 25 #[.int .i64 a, .int .i64 b]
  replace h := Below.step h hA
  clear hA
  obtain ⟨k00, k01⟩ := hx0.two
  have l0 := hx0.lt
  go_enter Try.func38, Try.ntmps38
  go_wp2_with fail
  refine (l1In_yes a (-1000) 1000 _ a1 a2).mono ?_
  rintro e w1 ⟨rfl, rfl⟩
  go_wp2_with fail
  refine (l1In_yes b (-10000) 10000 _ b1 b2).mono ?_
  rintro e w2 ⟨rfl, rfl⟩
  go_wp2_with fail
  refine (key.out _).mono ?_
  rintro e w3 ⟨rfl, hb⟩
  replace h := Below.step h hb
  replace hx0 := hx0.kept hb
  clear hb k00 k01 l0
  obtain ⟨k00, k01⟩ := hx0.two
  have l0 := hx0.lt
  go_wp2_with fail
  go_ret
  exact ⟨rfl, h⟩


set_option maxHeartbeats 1000000 in
theorem ecGood_a (a b : Int) (w : World) (g : a < -1000 ∨ 1000 < a) : Calls Try.prog 38 #[.agg #[.int .i64 a, .int .i64 b]] w (GivesB w false) := by
  have h := Below.refl w.heap.size w
  have hA := below_alloc1 w (.cells #[.int .i64 a, .int .i64 b] 25)
  have hx0 := Box.new w 25 #[.int .i64 a, .int .i64 b]
  replace h := Below.step h hA
  clear hA
  obtain ⟨k00, k01⟩ := hx0.two
  have l0 := hx0.lt
  go_enter Try.func38, Try.ntmps38
  go_wp2_with fail
  refine (l1In_no a (-1000) 1000 _ g).mono ?_
  rintro e w1 ⟨rfl, rfl⟩
  go_wp2_with fail
  go_ret
  exact ⟨rfl, h⟩


set_option maxHeartbeats 1000000 in
theorem ecGood_b (a b : Int) (w : World) (ha : -1000 ≤ a ∧ a ≤ 1000) (g : b < -10000 ∨ 10000 < b) : Calls Try.prog 38 #[.agg #[.int .i64 a, .int .i64 b]] w (GivesB w false) := by
  obtain ⟨a1, a2⟩ := ha
  have h := Below.refl w.heap.size w
  have hA := below_alloc1 w (.cells #[.int .i64 a, .int .i64 b] 25)
  have hx0 := Box.new w 25 #[.int .i64 a, .int .i64 b]
  replace h := Below.step h hA
  clear hA
  obtain ⟨k00, k01⟩ := hx0.two
  have l0 := hx0.lt
  go_enter Try.func38, Try.ntmps38
  go_wp2_with fail
  refine (l1In_yes a (-1000) 1000 _ a1 a2).mono ?_
  rintro e w1 ⟨rfl, rfl⟩
  go_wp2_with fail
  refine (l1In_no b (-10000) 10000 _ g).mono ?_
  rintro e w2 ⟨rfl, rfl⟩
  go_wp2_with fail
  go_ret
  exact ⟨rfl, h⟩


set_option maxHeartbeats 1000000 in
theorem ecGood_0 (a b : Int) (w : World) (ha : -1000 ≤ a ∧ a ≤ 1000) (hb : -10000 ≤ b ∧ b ≤ 10000) (g : ecD a b = 0) : Calls Try.prog 38 #[.agg #[.int .i64 a, .int .i64 b]] w (GivesB w false) := by
  obtain ⟨a1, a2⟩ := ha
  obtain ⟨b1, b2⟩ := hb
  have key := fun W => ecDisc_any a b W ⟨a1, a2⟩ ⟨b1, b2⟩ 0 g
  clear g
  replace key := Lib.hid key
  have h := Below.refl w.heap.size w
  have hA := below_alloc1 w (.cells #[.int .i64 a, .int .i64 b] 25)
  have hx0 := Box.new w 25 #[.int .i64 a, .int .i64 b]
  replace h := Below.step h hA
  clear hA
  obtain ⟨k00, k01⟩ := hx0.two
  have l0 := hx0.lt
  go_enter Try.func38, Try.ntmps38
  go_wp2_with fail
  refine (l1In_yes a (-1000) 1000 _ a1 a2).mono ?_
  rintro e w1 ⟨rfl, rfl⟩
  go_wp2_with fail
  refine (l1In_yes b (-10000) 10000 _ b1 b2).mono ?_
  rintro e w2 ⟨rfl, rfl⟩
  go_wp2_with fail
  refine (key.out _).mono ?_
  rintro e w3 ⟨rfl, hb⟩
  replace h := Below.step h hb
  replace hx0 := hx0.kept hb
  clear hb k00 k01 l0
  obtain ⟨k00, k01⟩ := hx0.two
  have l0 := hx0.lt
  go_wp2_with fail
  go_ret
  exact ⟨rfl, h⟩


theorem ecGood_any (a b : Int) (w : World) : Calls Try.prog 38 #[.agg #[.int .i64 a, .int .i64 b]] w (GivesB w (decide (EcG a b))) := by
  by_cases g : EcG a b
  · rw [decide_eq_true g]; exact ecGood_yes a b w g
  · rw [decide_eq_false g]
    by_cases ha : -1000 ≤ a ∧ a ≤ 1000
    · by_cases hb : -10000 ≤ b ∧ b ≤ 10000
      · exact ecGood_0 a b w ha hb (Classical.byContradiction fun k => g ⟨ha, hb, k⟩)
      · exact ecGood_b a b w ha (by omega)
    · exact ecGood_a a b w (by omega)
theorem ecGood_no (a b : Int) (w : World) (g : ¬ EcG a b) : Calls Try.prog 38 #[.agg #[.int .i64 a, .int .i64 b]] w (GivesB w false) := by
  have := ecGood_any a b w
  rwa [decide_eq_false g] at this

set_option maxHeartbeats 1000000 in
theorem isCurveS_any (a b : Int) (w : World) : Calls Try.prog 13 #[.agg #[.int .i64 a, .int .i64 b]] w (GivesB w (decide (EcG a b))) := by
  obtain ⟨ok, hok⟩ : ∃ ok, ok = decide (EcG a b) := ⟨_, rfl⟩
  have key := fun W => ecGood_any a b W
  rw [← hok] at key ⊢
  replace key := Lib.hid key
  clear hok
  have h := Below.refl w.heap.size w
  have hA := below_alloc1 w (.cells #[.int .i64 a, .int .i64 b] 25)
  have hx0 := Box.new w 25 #[.int .i64 a, .int .i64 b]
  replace h := Below.step h hA
  clear hA
  obtain ⟨k00, k01⟩ := hx0.two
  have l0 := hx0.lt
  go_enter Try.func13, Try.ntmps13
  go_wp2_with fail
  refine (key.out _).mono ?_
  rintro e w1 ⟨rfl, hb⟩
  replace h := Below.step h hb
  replace hx0 := hx0.kept hb
  clear hb k00 k01 l0
  obtain ⟨k00, k01⟩ := hx0.two
  have l0 := hx0.lt
  go_wp2_with fail
  go_ret
  exact ⟨rfl, h⟩


set_option maxHeartbeats 1000000 in
theorem discS_yes (a b : Int) (w : World) (g : EcG a b) : Calls Try.prog 16 #[.agg #[.int .i64 a, .int .i64 b]] w (GivesIB w (-16 * ecD a b) true) := by
  have g' := g
  obtain ⟨⟨a1, a2⟩, ⟨b1, b2⟩, -⟩ := g'
  obtain ⟨D, hD⟩ : ∃ D, ecD a b = D := ⟨_, rfl⟩
  have key := fun W => ecDisc_any a b W ⟨a1, a2⟩ ⟨b1, b2⟩ D hD
  have hl := ecD_le g
  rw [hD] at hl
  rw [show ecD a b = D from hD]
  replace key := Lib.hid key
  clear hD
  have h := Below.refl w.heap.size w
  have hA := below_alloc1 w (.cells #[.int .i64 a, .int .i64 b] 25)
  have hx0 := Box.new w 25 #[.int .i64 a, .int .i64 b]
  replace h := Below.step h hA
  clear hA
  obtain ⟨k00, k01⟩ := hx0.two
  have l0 := hx0.lt
  go_enter Try.func16, Try.ntmps16
  go_wp2_with fail
  refine (ecGood_yes a b _ g).mono ?_
  rintro e w1 ⟨rfl, hb⟩
  replace h := Below.step h hb
  replace hx0 := hx0.kept hb
  clear hb k00 k01 l0
  obtain ⟨k00, k01⟩ := hx0.two
  have l0 := hx0.lt
  go_wp2_with fail
  refine (key.out _).mono ?_
  rintro e w2 ⟨rfl, hb⟩
  replace h := Below.step h hb
  replace hx0 := hx0.kept hb
  clear hb k00 k01 l0
  obtain ⟨k00, k01⟩ := hx0.two
  have l0 := hx0.lt
  go_wp2_with fail
  go_ret2
  exact ⟨rfl, h⟩


set_option maxHeartbeats 1000000 in
theorem discS_bad (a b : Int) (w : World) (g : ¬ EcG a b) : Calls Try.prog 16 #[.agg #[.int .i64 a, .int .i64 b]] w (GivesIB w 0 false) := by
  have h := Below.refl w.heap.size w
  have hA := below_alloc1 w (.cells #[.int .i64 a, .int .i64 b] 25)
  have hx0 := Box.new w 25 #[.int .i64 a, .int .i64 b]
  replace h := Below.step h hA
  clear hA
  obtain ⟨k00, k01⟩ := hx0.two
  have l0 := hx0.lt
  go_enter Try.func16, Try.ntmps16
  go_wp2_with fail
  refine (ecGood_no a b _ g).mono ?_
  rintro e w1 ⟨rfl, hb⟩
  replace h := Below.step h hb
  replace hx0 := hx0.kept hb
  clear hb k00 k01 l0
  obtain ⟨k00, k01⟩ := hx0.two
  have l0 := hx0.lt
  go_wp2_with fail
  go_ret2
  exact ⟨rfl, h⟩


set_option maxHeartbeats 1000000 in
theorem partsS_neg (a b : Int) (w : World) (g : EcG a b) (hn : ecD a b < 0) : Calls Try.prog 34 #[.agg #[.int .i64 a, .int .i64 b]] w (GivesIB w 2 true) := by
  have g' := g
  obtain ⟨⟨a1, a2⟩, ⟨b1, b2⟩, -⟩ := g'
  obtain ⟨D, hD⟩ : ∃ D, ecD a b = D := ⟨_, rfl⟩
  have key := fun W => ecDisc_any a b W ⟨a1, a2⟩ ⟨b1, b2⟩ D hD
  have hl := ecD_le g
  rw [hD] at hl
  rw [hD] at hn
  replace key := Lib.hid key
  clear hD
  have h := Below.refl w.heap.size w
  have hA := below_alloc1 w (.cells #[.int .i64 a, .int .i64 b] 25)
  have hx0 := Box.new w 25 #[.int .i64 a, .int .i64 b]
  replace h := Below.step h hA
  clear hA
  obtain ⟨k00, k01⟩ := hx0.two
  have l0 := hx0.lt
  go_enter Try.func34, Try.ntmps34
  go_wp2_with fail
  refine (ecGood_yes a b _ g).mono ?_
  rintro e w1 ⟨rfl, hb⟩
  replace h := Below.step h hb
  replace hx0 := hx0.kept hb
  clear hb k00 k01 l0
  obtain ⟨k00, k01⟩ := hx0.two
  have l0 := hx0.lt
  go_wp2_with fail
  refine (key.out _).mono ?_
  rintro e w2 ⟨rfl, hb⟩
  replace h := Below.step h hb
  replace hx0 := hx0.kept hb
  clear hb k00 k01 l0
  obtain ⟨k00, k01⟩ := hx0.two
  have l0 := hx0.lt
  go_wp2_with fail
  go_ret2
  exact ⟨rfl, h⟩


set_option maxHeartbeats 1000000 in
theorem partsS_pos (a b : Int) (w : World) (g : EcG a b) (hn : ¬ ecD a b < 0) : Calls Try.prog 34 #[.agg #[.int .i64 a, .int .i64 b]] w (GivesIB w 1 true) := by
  have g' := g
  obtain ⟨⟨a1, a2⟩, ⟨b1, b2⟩, -⟩ := g'
  obtain ⟨D, hD⟩ : ∃ D, ecD a b = D := ⟨_, rfl⟩
  have key := fun W => ecDisc_any a b W ⟨a1, a2⟩ ⟨b1, b2⟩ D hD
  have hl := ecD_le g
  rw [hD] at hl
  rw [hD] at hn
  replace key := Lib.hid key
  clear hD
  have h := Below.refl w.heap.size w
  have hA := below_alloc1 w (.cells #[.int .i64 a, .int .i64 b] 25)
  have hx0 := Box.new w 25 #[.int .i64 a, .int .i64 b]
  replace h := Below.step h hA
  clear hA
  obtain ⟨k00, k01⟩ := hx0.two
  have l0 := hx0.lt
  go_enter Try.func34, Try.ntmps34
  go_wp2_with fail
  refine (ecGood_yes a b _ g).mono ?_
  rintro e w1 ⟨rfl, hb⟩
  replace h := Below.step h hb
  replace hx0 := hx0.kept hb
  clear hb k00 k01 l0
  obtain ⟨k00, k01⟩ := hx0.two
  have l0 := hx0.lt
  go_wp2_with fail
  refine (key.out _).mono ?_
  rintro e w2 ⟨rfl, hb⟩
  replace h := Below.step h hb
  replace hx0 := hx0.kept hb
  clear hb k00 k01 l0
  obtain ⟨k00, k01⟩ := hx0.two
  have l0 := hx0.lt
  go_wp2_with fail
  go_ret2
  exact ⟨rfl, h⟩


set_option maxHeartbeats 1000000 in
theorem partsS_bad (a b : Int) (w : World) (g : ¬ EcG a b) : Calls Try.prog 34 #[.agg #[.int .i64 a, .int .i64 b]] w (GivesIB w 0 false) := by
  have h := Below.refl w.heap.size w
  have hA := below_alloc1 w (.cells #[.int .i64 a, .int .i64 b] 25)
  have hx0 := Box.new w 25 #[.int .i64 a, .int .i64 b]
  replace h := Below.step h hA
  clear hA
  obtain ⟨k00, k01⟩ := hx0.two
  have l0 := hx0.lt
  go_enter Try.func34, Try.ntmps34
  go_wp2_with fail
  refine (ecGood_no a b _ g).mono ?_
  rintro e w1 ⟨rfl, hb⟩
  replace h := Below.step h hb
  replace hx0 := hx0.kept hb
  clear hb k00 k01 l0
  obtain ⟨k00, k01⟩ := hx0.two
  have l0 := hx0.lt
  go_wp2_with fail
  go_ret2
  exact ⟨rfl, h⟩


set_option maxHeartbeats 1000000 in
theorem ecValue_any (a b x : Int) (w : World) (ha : -1000 ≤ a ∧ a ≤ 1000) (hb : -10000 ≤ b ∧ b ≤ 10000) (hx : -1000000 ≤ x ∧ x ≤ 1000000) (V : Int) (hV : ecV a b x = V) : Calls Try.prog 47 #[.agg #[.int .i64 a, .int .i64 b], .int .i64 x] w (GivesI w V) := by
  obtain ⟨⟨p1, p2⟩, ⟨p3, p4⟩, ⟨p5, p6⟩, ⟨p7, p8⟩⟩ := ecV_bd ha hx
  replace hV := Lib.hid hV
  have h := Below.refl w.heap.size w
  have hA := below_alloc1 w (.cells #[.int .i64 a, .int .i64 b] 25)
  have hx0 := Box.new w 25 #[.int .i64 a, .int .i64 b]
  replace h := Below.step h hA
  clear hA
  obtain ⟨k00, k01⟩ := hx0.two
  have l0 := hx0.lt
  go_enter Try.func47, Try.ntmps47
  go_wp2_with fail
  go_ret
  exact ⟨congrArg (fun z => Ending.returned (.int .i64 z)) hV.out, h⟩


set_option maxHeartbeats 1000000 in
theorem onS_yes (a b x y : Int) (w : World) (g : EcG a b) (hx : -1000000 ≤ x ∧ x ≤ 1000000) (hy : -1000000 ≤ y ∧ y ≤ 1000000) (ok : Bool) (hok : ok = (y * y == ecV a b x)) : Calls Try.prog 27 #[.agg #[.int .i64 a, .int .i64 b], .int .i64 x, .int .i64 y] w (GivesBB w ok true) := by
  have g' := g
  obtain ⟨ha, hb, -⟩ := g'
  obtain ⟨V, hV⟩ : ∃ V, ecV a b x = V := ⟨_, rfl⟩
  have key := fun W => ecValue_any a b x W ha hb hx V hV
  rw [hV] at hok
  replace key := Lib.hid key
  have hsq := fr_mul_bd hy.1 hy.2 hy.1 hy.2
  obtain ⟨x1, x2⟩ := hx
  obtain ⟨y1, y2⟩ := hy
  replace hok := Lib.hid hok
  clear hV ha hb
  have h := Below.refl w.heap.size w
  have hA := below_alloc1 w (.cells #[.int .i64 a, .int .i64 b] 25)
  have hx0 := Box.new w 25 #[.int .i64 a, .int .i64 b]
  replace h := Below.step h hA
  clear hA
  obtain ⟨k00, k01⟩ := hx0.two
  have l0 := hx0.lt
  go_enter Try.func27, Try.ntmps27
  go_wp2_with fail
  refine (ecGood_yes a b _ g).mono ?_
  rintro e w1 ⟨rfl, hb⟩
  replace h := Below.step h hb
  replace hx0 := hx0.kept hb
  clear hb k00 k01 l0
  obtain ⟨k00, k01⟩ := hx0.two
  have l0 := hx0.lt
  go_wp2_with fail
  refine (l1In_yes x (-1000000) 1000000 _ x1 x2).mono ?_
  rintro e w2 ⟨rfl, rfl⟩
  go_wp2_with fail
  refine (l1In_yes y (-1000000) 1000000 _ y1 y2).mono ?_
  rintro e w3 ⟨rfl, rfl⟩
  go_wp2_with fail
  refine (key.out _).mono ?_
  rintro e w4 ⟨rfl, hb⟩
  replace h := Below.step h hb
  replace hx0 := hx0.kept hb
  clear hb k00 k01 l0
  obtain ⟨k00, k01⟩ := hx0.two
  have l0 := hx0.lt
  go_wp2_with fail
  rw [hok.out]
  go_ret2
  exact ⟨rfl, h⟩


set_option maxHeartbeats 1000000 in
theorem onS_x (a b x y : Int) (w : World) (g : EcG a b) (hx : x < -1000000 ∨ 1000000 < x) : Calls Try.prog 27 #[.agg #[.int .i64 a, .int .i64 b], .int .i64 x, .int .i64 y] w (GivesBB w false false) := by
  have h := Below.refl w.heap.size w
  have hA := below_alloc1 w (.cells #[.int .i64 a, .int .i64 b] 25)
  have hx0 := Box.new w 25 #[.int .i64 a, .int .i64 b]
  replace h := Below.step h hA
  clear hA
  obtain ⟨k00, k01⟩ := hx0.two
  have l0 := hx0.lt
  go_enter Try.func27, Try.ntmps27
  go_wp2_with fail
  refine (ecGood_yes a b _ g).mono ?_
  rintro e w1 ⟨rfl, hb⟩
  replace h := Below.step h hb
  replace hx0 := hx0.kept hb
  clear hb k00 k01 l0
  obtain ⟨k00, k01⟩ := hx0.two
  have l0 := hx0.lt
  go_wp2_with fail
  refine (l1In_no x (-1000000) 1000000 _ hx).mono ?_
  rintro e w2 ⟨rfl, rfl⟩
  go_wp2_with fail
  go_ret2
  exact ⟨rfl, h⟩


set_option maxHeartbeats 1000000 in
theorem onS_y (a b x y : Int) (w : World) (g : EcG a b) (hx : -1000000 ≤ x ∧ x ≤ 1000000) (hy : y < -1000000 ∨ 1000000 < y) : Calls Try.prog 27 #[.agg #[.int .i64 a, .int .i64 b], .int .i64 x, .int .i64 y] w (GivesBB w false false) := by
  have h := Below.refl w.heap.size w
  have hA := below_alloc1 w (.cells #[.int .i64 a, .int .i64 b] 25)
  have hx0 := Box.new w 25 #[.int .i64 a, .int .i64 b]
  replace h := Below.step h hA
  clear hA
  obtain ⟨k00, k01⟩ := hx0.two
  have l0 := hx0.lt
  obtain ⟨x1, x2⟩ := hx
  go_enter Try.func27, Try.ntmps27
  go_wp2_with fail
  refine (ecGood_yes a b _ g).mono ?_
  rintro e w1 ⟨rfl, hb⟩
  replace h := Below.step h hb
  replace hx0 := hx0.kept hb
  clear hb k00 k01 l0
  obtain ⟨k00, k01⟩ := hx0.two
  have l0 := hx0.lt
  go_wp2_with fail
  refine (l1In_yes x (-1000000) 1000000 _ x1 x2).mono ?_
  rintro e w2 ⟨rfl, rfl⟩
  go_wp2_with fail
  refine (l1In_no y (-1000000) 1000000 _ hy).mono ?_
  rintro e w3 ⟨rfl, rfl⟩
  go_wp2_with fail
  go_ret2
  exact ⟨rfl, h⟩


set_option maxHeartbeats 1000000 in
theorem onS_bad (a b x y : Int) (w : World) (g : ¬ EcG a b) : Calls Try.prog 27 #[.agg #[.int .i64 a, .int .i64 b], .int .i64 x, .int .i64 y] w (GivesBB w false false) := by
  have h := Below.refl w.heap.size w
  have hA := below_alloc1 w (.cells #[.int .i64 a, .int .i64 b] 25)
  have hx0 := Box.new w 25 #[.int .i64 a, .int .i64 b]
  replace h := Below.step h hA
  clear hA
  obtain ⟨k00, k01⟩ := hx0.two
  have l0 := hx0.lt
  go_enter Try.func27, Try.ntmps27
  go_wp2_with fail
  refine (ecGood_no a b _ g).mono ?_
  rintro e w1 ⟨rfl, hb⟩
  replace h := Below.step h hb
  replace hx0 := hx0.kept hb
  clear hb k00 k01 l0
  obtain ⟨k00, k01⟩ := hx0.two
  have l0 := hx0.lt
  go_wp2_with fail
  go_ret2
  exact ⟨rfl, h⟩

end Go.Proofs.Ytmknmjkcnlennaa
