/- The program's IsCurve, DiscriminantOf, RealParts, IsIntegerPoint (written by wip/gen/eci.py). -/
import Derived.Test.YtmknmjkcnlennaaEcForm
import Derived.Test.YtmknmjkcnlennaaEcMin
namespace Go.Proofs.Ytmknmjkcnlennaa
open Go.RowKit Go.Joins

set_option maxHeartbeats 1000000 in
theorem isCurveI_yes (a b : Int) (w : World) (g : EcG a b) : Calls Try.prog 15 #[.agg #[.int .i64 a, .int .i64 b]] w (GivesB w true) := by
  obtain ⟨ha, hb, g0⟩ := g
  obtain ⟨a1, a2⟩ := ha
  obtain ⟨b1, b2⟩ := hb
  obtain ⟨T, V, fc, fa, hF, hf⟩ := formOf_any a b ⟨a1, a2⟩ ⟨b1, b2⟩
  have n1 := hF.nc
  have m1 := hF.mc
  have e1 := hF.ec
  have c1 := hF.cc
  replace c1 := Lib.hid c1
  replace hf := Lib.hid hf
  clear hF
  obtain ⟨D, hD⟩ : ∃ D, ecD a b = D := ⟨_, rfl⟩
  rw [hD] at c1 g0
  have e2 : (D != 0) = true := by simp [g0]
  clear hD g0
  have h := Below.refl w.heap.size w
  have hA := below_alloc1 w (.cells #[.int .i64 a, .int .i64 b] 25)
  have hx0 := Box.new w 25 #[.int .i64 a, .int .i64 b]
  replace h := Below.step h hA
  clear hA
  obtain ⟨k00, k01⟩ := hx0.two
  have l0 := hx0.lt
  go_enter Try.func15, Try.ntmps15
  go_wp2_with fail
  refine (hf.out _).mono ?_
  rintro e w1 ⟨rfl, hb⟩
  replace h := Below.step h hb
  replace hx0 := hx0.kept hb
  clear hb k00 k01 l0
  obtain ⟨k00, k01⟩ := hx0.two
  have l0 := hx0.lt
  go_wp2_with fail
  refine (c1.out _).mono ?_
  rintro e w2 ⟨rfl, hb⟩
  replace h := Below.step h hb
  replace hx0 := hx0.kept hb
  clear hb k00 k01 l0
  obtain ⟨k00, k01⟩ := hx0.two
  have l0 := hx0.lt
  go_wp2_with fail
  go_ret
  exact ⟨rfl, h⟩


set_option maxHeartbeats 1000000 in
theorem isCurveI_0 (a b : Int) (w : World) (ha : -1000 ≤ a ∧ a ≤ 1000) (hb : -10000 ≤ b ∧ b ≤ 10000) (g : ecD a b = 0) : Calls Try.prog 15 #[.agg #[.int .i64 a, .int .i64 b]] w (GivesB w false) := by
  obtain ⟨a1, a2⟩ := ha
  obtain ⟨b1, b2⟩ := hb
  obtain ⟨T, V, fc, fa, hF, hf⟩ := formOf_any a b ⟨a1, a2⟩ ⟨b1, b2⟩
  have n1 := hF.nc
  have m1 := hF.mc
  have e1 := hF.ec
  have c1 := hF.cc
  replace c1 := Lib.hid c1
  replace hf := Lib.hid hf
  clear hF
  obtain ⟨D, hD⟩ : ∃ D, ecD a b = D := ⟨_, rfl⟩
  rw [g] at hD
  subst hD
  rw [g] at c1
  clear g
  have h := Below.refl w.heap.size w
  have hA := below_alloc1 w (.cells #[.int .i64 a, .int .i64 b] 25)
  have hx0 := Box.new w 25 #[.int .i64 a, .int .i64 b]
  replace h := Below.step h hA
  clear hA
  obtain ⟨k00, k01⟩ := hx0.two
  have l0 := hx0.lt
  go_enter Try.func15, Try.ntmps15
  go_wp2_with fail
  refine (hf.out _).mono ?_
  rintro e w1 ⟨rfl, hb⟩
  replace h := Below.step h hb
  replace hx0 := hx0.kept hb
  clear hb k00 k01 l0
  obtain ⟨k00, k01⟩ := hx0.two
  have l0 := hx0.lt
  go_wp2_with fail
  refine (c1.out _).mono ?_
  rintro e w2 ⟨rfl, hb⟩
  replace h := Below.step h hb
  replace hx0 := hx0.kept hb
  clear hb k00 k01 l0
  obtain ⟨k00, k01⟩ := hx0.two
  have l0 := hx0.lt
  go_wp2_with fail
  go_ret
  exact ⟨rfl, h⟩


set_option maxHeartbeats 1000000 in
theorem isCurveI_a1 (a b : Int) (w : World) (g : a < -1000) : Calls Try.prog 15 #[.agg #[.int .i64 a, .int .i64 b]] w (GivesB w false) := by
  have e3 : decide (-1000 ≤ a) = false := decide_eq_false (by omega)
  have h := Below.refl w.heap.size w
  have hA := below_alloc1 w (.cells #[.int .i64 a, .int .i64 b] 25)
  have hx0 := Box.new w 25 #[.int .i64 a, .int .i64 b]
  replace h := Below.step h hA
  clear hA
  obtain ⟨k00, k01⟩ := hx0.two
  have l0 := hx0.lt
  go_enter Try.func15, Try.ntmps15
  go_wp2_with fail
  go_ret
  exact ⟨rfl, h⟩


set_option maxHeartbeats 1000000 in
theorem isCurveI_a2 (a b : Int) (w : World) (g : 1000 < a) : Calls Try.prog 15 #[.agg #[.int .i64 a, .int .i64 b]] w (GivesB w false) := by
  have e3 : decide (a ≤ 1000) = false := decide_eq_false (by omega)
  have h := Below.refl w.heap.size w
  have hA := below_alloc1 w (.cells #[.int .i64 a, .int .i64 b] 25)
  have hx0 := Box.new w 25 #[.int .i64 a, .int .i64 b]
  replace h := Below.step h hA
  clear hA
  obtain ⟨k00, k01⟩ := hx0.two
  have l0 := hx0.lt
  go_enter Try.func15, Try.ntmps15
  go_wp2_with fail
  go_ret
  exact ⟨rfl, h⟩


set_option maxHeartbeats 1000000 in
theorem isCurveI_b1 (a b : Int) (w : World) (a1 : -1000 ≤ a) (a2 : a ≤ 1000) (g : b < -10000) : Calls Try.prog 15 #[.agg #[.int .i64 a, .int .i64 b]] w (GivesB w false) := by
  have e3 : decide (-10000 ≤ b) = false := decide_eq_false (by omega)
  have h := Below.refl w.heap.size w
  have hA := below_alloc1 w (.cells #[.int .i64 a, .int .i64 b] 25)
  have hx0 := Box.new w 25 #[.int .i64 a, .int .i64 b]
  replace h := Below.step h hA
  clear hA
  obtain ⟨k00, k01⟩ := hx0.two
  have l0 := hx0.lt
  go_enter Try.func15, Try.ntmps15
  go_wp2_with fail
  go_ret
  exact ⟨rfl, h⟩


set_option maxHeartbeats 1000000 in
theorem isCurveI_b2 (a b : Int) (w : World) (a1 : -1000 ≤ a) (a2 : a ≤ 1000) (g : 10000 < b) : Calls Try.prog 15 #[.agg #[.int .i64 a, .int .i64 b]] w (GivesB w false) := by
  have e3 : decide (b ≤ 10000) = false := decide_eq_false (by omega)
  have h := Below.refl w.heap.size w
  have hA := below_alloc1 w (.cells #[.int .i64 a, .int .i64 b] 25)
  have hx0 := Box.new w 25 #[.int .i64 a, .int .i64 b]
  replace h := Below.step h hA
  clear hA
  obtain ⟨k00, k01⟩ := hx0.two
  have l0 := hx0.lt
  go_enter Try.func15, Try.ntmps15
  go_wp2_with fail
  go_ret
  exact ⟨rfl, h⟩


theorem isCurveI_any (a b : Int) (w : World) : Calls Try.prog 15 #[.agg #[.int .i64 a, .int .i64 b]] w (GivesB w (decide (EcG a b))) := by
  by_cases g : EcG a b
  · rw [decide_eq_true g]; exact isCurveI_yes a b w g
  · rw [decide_eq_false g]
    by_cases a1 : -1000 ≤ a
    · by_cases a2 : a ≤ 1000
      · by_cases b1 : -10000 ≤ b
        · by_cases b2 : b ≤ 10000
          · exact isCurveI_0 a b w ⟨a1, a2⟩ ⟨b1, b2⟩ (Classical.byContradiction fun k => g ⟨⟨a1, a2⟩, ⟨b1, b2⟩, k⟩)
          · exact isCurveI_b2 a b w a1 a2 (by omega)
        · exact isCurveI_b1 a b w a1 a2 (by omega)
      · exact isCurveI_a2 a b w (by omega)
    · exact isCurveI_a1 a b w (by omega)
theorem isCurveI_no (a b : Int) (w : World) (g : ¬ EcG a b) : Calls Try.prog 15 #[.agg #[.int .i64 a, .int .i64 b]] w (GivesB w false) := by
  have := isCurveI_any a b w
  rwa [decide_eq_false g] at this

set_option maxHeartbeats 1000000 in
theorem discI_yes (a b : Int) (w : World) (g : EcG a b) : Calls Try.prog 17 #[.agg #[.int .i64 a, .int .i64 b]] w (GivesIB w (-16 * ecD a b) true) := by
  have g' := g
  obtain ⟨⟨a1, a2⟩, ⟨b1, b2⟩, -⟩ := g'
  obtain ⟨T, V, fc, fa, hF, hf⟩ := formOf_any a b ⟨a1, a2⟩ ⟨b1, b2⟩
  have n1 := hF.nc
  have m1 := hF.mc
  have e1 := hF.ec
  have c1 := hF.cc
  replace c1 := Lib.hid c1
  replace hf := Lib.hid hf
  have hl := ecD_le g
  clear hF
  obtain ⟨D, hD⟩ : ∃ D, ecD a b = D := ⟨_, rfl⟩
  rw [hD] at hl c1
  rw [show ecD a b = D from hD]
  clear hD
  have h := Below.refl w.heap.size w
  have hA := below_alloc1 w (.cells #[.int .i64 a, .int .i64 b] 25)
  have hx0 := Box.new w 25 #[.int .i64 a, .int .i64 b]
  replace h := Below.step h hA
  clear hA
  obtain ⟨k00, k01⟩ := hx0.two
  have l0 := hx0.lt
  go_enter Try.func17, Try.ntmps17
  go_wp2_with fail
  refine (isCurveI_yes a b _ g).mono ?_
  rintro e w1 ⟨rfl, hb⟩
  replace h := Below.step h hb
  replace hx0 := hx0.kept hb
  clear hb k00 k01 l0
  obtain ⟨k00, k01⟩ := hx0.two
  have l0 := hx0.lt
  go_wp2_with fail
  refine (hf.out _).mono ?_
  rintro e w2 ⟨rfl, hb⟩
  replace h := Below.step h hb
  replace hx0 := hx0.kept hb
  clear hb k00 k01 l0
  obtain ⟨k00, k01⟩ := hx0.two
  have l0 := hx0.lt
  go_wp2_with fail
  refine (c1.out _).mono ?_
  rintro e w3 ⟨rfl, hb⟩
  replace h := Below.step h hb
  replace hx0 := hx0.kept hb
  clear hb k00 k01 l0
  obtain ⟨k00, k01⟩ := hx0.two
  have l0 := hx0.lt
  go_wp2_with fail
  go_ret2
  exact ⟨rfl, h⟩


set_option maxHeartbeats 1000000 in
theorem discI_bad (a b : Int) (w : World) (g : ¬ EcG a b) : Calls Try.prog 17 #[.agg #[.int .i64 a, .int .i64 b]] w (GivesIB w 0 false) := by
  have h := Below.refl w.heap.size w
  have hA := below_alloc1 w (.cells #[.int .i64 a, .int .i64 b] 25)
  have hx0 := Box.new w 25 #[.int .i64 a, .int .i64 b]
  replace h := Below.step h hA
  clear hA
  obtain ⟨k00, k01⟩ := hx0.two
  have l0 := hx0.lt
  go_enter Try.func17, Try.ntmps17
  go_wp2_with fail
  refine (isCurveI_no a b _ g).mono ?_
  rintro e w1 ⟨rfl, hb⟩
  replace h := Below.step h hb
  replace hx0 := hx0.kept hb
  clear hb k00 k01 l0
  obtain ⟨k00, k01⟩ := hx0.two
  have l0 := hx0.lt
  go_wp2_with fail
  go_ret2
  exact ⟨rfl, h⟩


set_option maxHeartbeats 1000000 in
theorem partsI_neg (a b : Int) (w : World) (g : EcG a b) (hn : ecD a b < 0) : Calls Try.prog 35 #[.agg #[.int .i64 a, .int .i64 b]] w (GivesIB w 2 true) := by
  have g' := g
  obtain ⟨⟨a1, a2⟩, ⟨b1, b2⟩, -⟩ := g'
  obtain ⟨T, V, fc, fa, hF, hf⟩ := formOf_any a b ⟨a1, a2⟩ ⟨b1, b2⟩
  have n1 := hF.nc
  have m1 := hF.mc
  have e1 := hF.ec
  have c1 := hF.cc
  replace c1 := Lib.hid c1
  replace hf := Lib.hid hf
  have hl := ecD_le g
  clear hF
  obtain ⟨D, hD⟩ : ∃ D, ecD a b = D := ⟨_, rfl⟩
  rw [hD] at hl c1
  rw [hD] at hn
  clear hD
  have h := Below.refl w.heap.size w
  have hA := below_alloc1 w (.cells #[.int .i64 a, .int .i64 b] 25)
  have hx0 := Box.new w 25 #[.int .i64 a, .int .i64 b]
  replace h := Below.step h hA
  clear hA
  obtain ⟨k00, k01⟩ := hx0.two
  have l0 := hx0.lt
  go_enter Try.func35, Try.ntmps35
  go_wp2_with fail
  refine (isCurveI_yes a b _ g).mono ?_
  rintro e w1 ⟨rfl, hb⟩
  replace h := Below.step h hb
  replace hx0 := hx0.kept hb
  clear hb k00 k01 l0
  obtain ⟨k00, k01⟩ := hx0.two
  have l0 := hx0.lt
  go_wp2_with fail
  refine (hf.out _).mono ?_
  rintro e w2 ⟨rfl, hb⟩
  replace h := Below.step h hb
  replace hx0 := hx0.kept hb
  clear hb k00 k01 l0
  obtain ⟨k00, k01⟩ := hx0.two
  have l0 := hx0.lt
  go_wp2_with fail
  refine (c1.out _).mono ?_
  rintro e w3 ⟨rfl, hb⟩
  replace h := Below.step h hb
  replace hx0 := hx0.kept hb
  clear hb k00 k01 l0
  obtain ⟨k00, k01⟩ := hx0.two
  have l0 := hx0.lt
  go_wp2_with fail
  go_ret2
  exact ⟨rfl, h⟩


set_option maxHeartbeats 1000000 in
theorem partsI_pos (a b : Int) (w : World) (g : EcG a b) (hn : ¬ ecD a b < 0) : Calls Try.prog 35 #[.agg #[.int .i64 a, .int .i64 b]] w (GivesIB w 1 true) := by
  have g' := g
  obtain ⟨⟨a1, a2⟩, ⟨b1, b2⟩, -⟩ := g'
  obtain ⟨T, V, fc, fa, hF, hf⟩ := formOf_any a b ⟨a1, a2⟩ ⟨b1, b2⟩
  have n1 := hF.nc
  have m1 := hF.mc
  have e1 := hF.ec
  have c1 := hF.cc
  replace c1 := Lib.hid c1
  replace hf := Lib.hid hf
  have hl := ecD_le g
  clear hF
  obtain ⟨D, hD⟩ : ∃ D, ecD a b = D := ⟨_, rfl⟩
  rw [hD] at hl c1
  rw [hD] at hn
  clear hD
  have h := Below.refl w.heap.size w
  have hA := below_alloc1 w (.cells #[.int .i64 a, .int .i64 b] 25)
  have hx0 := Box.new w 25 #[.int .i64 a, .int .i64 b]
  replace h := Below.step h hA
  clear hA
  obtain ⟨k00, k01⟩ := hx0.two
  have l0 := hx0.lt
  go_enter Try.func35, Try.ntmps35
  go_wp2_with fail
  refine (isCurveI_yes a b _ g).mono ?_
  rintro e w1 ⟨rfl, hb⟩
  replace h := Below.step h hb
  replace hx0 := hx0.kept hb
  clear hb k00 k01 l0
  obtain ⟨k00, k01⟩ := hx0.two
  have l0 := hx0.lt
  go_wp2_with fail
  refine (hf.out _).mono ?_
  rintro e w2 ⟨rfl, hb⟩
  replace h := Below.step h hb
  replace hx0 := hx0.kept hb
  clear hb k00 k01 l0
  obtain ⟨k00, k01⟩ := hx0.two
  have l0 := hx0.lt
  go_wp2_with fail
  refine (c1.out _).mono ?_
  rintro e w3 ⟨rfl, hb⟩
  replace h := Below.step h hb
  replace hx0 := hx0.kept hb
  clear hb k00 k01 l0
  obtain ⟨k00, k01⟩ := hx0.two
  have l0 := hx0.lt
  go_wp2_with fail
  go_ret2
  exact ⟨rfl, h⟩


set_option maxHeartbeats 1000000 in
theorem partsI_bad (a b : Int) (w : World) (g : ¬ EcG a b) : Calls Try.prog 35 #[.agg #[.int .i64 a, .int .i64 b]] w (GivesIB w 0 false) := by
  have h := Below.refl w.heap.size w
  have hA := below_alloc1 w (.cells #[.int .i64 a, .int .i64 b] 25)
  have hx0 := Box.new w 25 #[.int .i64 a, .int .i64 b]
  replace h := Below.step h hA
  clear hA
  obtain ⟨k00, k01⟩ := hx0.two
  have l0 := hx0.lt
  go_enter Try.func35, Try.ntmps35
  go_wp2_with fail
  refine (isCurveI_no a b _ g).mono ?_
  rintro e w1 ⟨rfl, hb⟩
  replace h := Below.step h hb
  replace hx0 := hx0.kept hb
  clear hb k00 k01 l0
  obtain ⟨k00, k01⟩ := hx0.two
  have l0 := hx0.lt
  go_wp2_with fail
  go_ret2
  exact ⟨rfl, h⟩


set_option maxHeartbeats 1000000 in
theorem onI_yes (a b x y : Int) (w : World) (g : EcG a b) (hx : -1000000 ≤ x ∧ x ≤ 1000000) (hy : -1000000 ≤ y ∧ y ≤ 1000000) (ok : Bool) (hok : ok = (y * y == ecV a b x)) : Calls Try.prog 28 #[.agg #[.int .i64 a, .int .i64 b], .int .i64 x, .int .i64 y] w (GivesBB w ok true) := by
  have g' := g
  obtain ⟨ha, hb, -⟩ := g'
  obtain ⟨V', hV⟩ : ∃ V', ecV a b x = V' := ⟨_, rfl⟩
  obtain ⟨T, V, fc, fa, hF, hf⟩ := formOf_any a b ha hb
  have n1 := hF.na
  have m1 := hF.ma
  have e1 := hF.ea
  replace hf := Lib.hid hf
  have c1 := fun W => hF.ca x W hx.1 hx.2
  rw [hV] at hok c1
  replace c1 := Lib.hid c1
  have hsq := fr_mul_bd hy.1 hy.2 hy.1 hy.2
  obtain ⟨x1, x2⟩ := hx
  obtain ⟨y1, y2⟩ := hy
  have d1 : ¬ mn2 x y < -1000000 := by unfold mn2; omega
  have d2 : ¬ 1000000 < mx2 x y := by unfold mx2; omega
  replace hok := Lib.hid hok
  clear hV ha hb hF
  have h := Below.refl w.heap.size w
  have hA := below_alloc1 w (.cells #[.int .i64 a, .int .i64 b] 25)
  have hx0 := Box.new w 25 #[.int .i64 a, .int .i64 b]
  replace h := Below.step h hA
  clear hA
  obtain ⟨k00, k01⟩ := hx0.two
  have l0 := hx0.lt
  go_enter Try.func28, Try.ntmps28
  go_wp2_with fail
  refine (isCurveI_yes a b _ g).mono ?_
  rintro e w1 ⟨rfl, hb⟩
  replace h := Below.step h hb
  replace hx0 := hx0.kept hb
  clear hb k00 k01 l0
  obtain ⟨k00, k01⟩ := hx0.two
  have l0 := hx0.lt
  go_wp2_with fail
  refine (hf.out _).mono ?_
  rintro e w2 ⟨rfl, hb⟩
  replace h := Below.step h hb
  replace hx0 := hx0.kept hb
  clear hb k00 k01 l0
  obtain ⟨k00, k01⟩ := hx0.two
  have l0 := hx0.lt
  go_wp2_with fail
  refine (c1.out _).mono ?_
  rintro e w3 ⟨rfl, hb⟩
  replace h := Below.step h hb
  replace hx0 := hx0.kept hb
  clear hb k00 k01 l0
  obtain ⟨k00, k01⟩ := hx0.two
  have l0 := hx0.lt
  go_wp2_with fail
  rw [hok.out]
  go_ret2
  exact ⟨rfl, h⟩


set_option maxHeartbeats 1000000 in
theorem onI_low (a b x y : Int) (w : World) (g : EcG a b) (d1 : mn2 x y < -1000000) : Calls Try.prog 28 #[.agg #[.int .i64 a, .int .i64 b], .int .i64 x, .int .i64 y] w (GivesBB w false false) := by
  have h := Below.refl w.heap.size w
  have hA := below_alloc1 w (.cells #[.int .i64 a, .int .i64 b] 25)
  have hx0 := Box.new w 25 #[.int .i64 a, .int .i64 b]
  replace h := Below.step h hA
  clear hA
  obtain ⟨k00, k01⟩ := hx0.two
  have l0 := hx0.lt
  go_enter Try.func28, Try.ntmps28
  go_wp2_with fail
  refine (isCurveI_yes a b _ g).mono ?_
  rintro e w1 ⟨rfl, hb⟩
  replace h := Below.step h hb
  replace hx0 := hx0.kept hb
  clear hb k00 k01 l0
  obtain ⟨k00, k01⟩ := hx0.two
  have l0 := hx0.lt
  go_wp2_with fail
  go_ret2
  exact ⟨rfl, h⟩


set_option maxHeartbeats 1000000 in
theorem onI_high (a b x y : Int) (w : World) (g : EcG a b) (d1 : ¬ mn2 x y < -1000000) (d2 : 1000000 < mx2 x y) : Calls Try.prog 28 #[.agg #[.int .i64 a, .int .i64 b], .int .i64 x, .int .i64 y] w (GivesBB w false false) := by
  have h := Below.refl w.heap.size w
  have hA := below_alloc1 w (.cells #[.int .i64 a, .int .i64 b] 25)
  have hx0 := Box.new w 25 #[.int .i64 a, .int .i64 b]
  replace h := Below.step h hA
  clear hA
  obtain ⟨k00, k01⟩ := hx0.two
  have l0 := hx0.lt
  go_enter Try.func28, Try.ntmps28
  go_wp2_with fail
  refine (isCurveI_yes a b _ g).mono ?_
  rintro e w1 ⟨rfl, hb⟩
  replace h := Below.step h hb
  replace hx0 := hx0.kept hb
  clear hb k00 k01 l0
  obtain ⟨k00, k01⟩ := hx0.two
  have l0 := hx0.lt
  go_wp2_with fail
  go_ret2
  exact ⟨rfl, h⟩


set_option maxHeartbeats 1000000 in
theorem onI_bad (a b x y : Int) (w : World) (g : ¬ EcG a b) : Calls Try.prog 28 #[.agg #[.int .i64 a, .int .i64 b], .int .i64 x, .int .i64 y] w (GivesBB w false false) := by
  have h := Below.refl w.heap.size w
  have hA := below_alloc1 w (.cells #[.int .i64 a, .int .i64 b] 25)
  have hx0 := Box.new w 25 #[.int .i64 a, .int .i64 b]
  replace h := Below.step h hA
  clear hA
  obtain ⟨k00, k01⟩ := hx0.two
  have l0 := hx0.lt
  go_enter Try.func28, Try.ntmps28
  go_wp2_with fail
  refine (isCurveI_no a b _ g).mono ?_
  rintro e w1 ⟨rfl, hb⟩
  replace h := Below.step h hb
  replace hx0 := hx0.kept hb
  clear hb k00 k01 l0
  obtain ⟨k00, k01⟩ := hx0.two
  have l0 := hx0.lt
  go_wp2_with fail
  go_ret2
  exact ⟨rfl, h⟩

end Go.Proofs.Ytmknmjkcnlennaa
