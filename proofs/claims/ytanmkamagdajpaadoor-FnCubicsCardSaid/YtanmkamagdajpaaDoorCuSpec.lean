/- The model's CubicAt, CubicDiscriminant, RealRootCount (written by wip/gen/cuspec.py). -/
import Derived.Test.YtanmkamagdajpaaDoorCuGood
namespace Go.Proofs.YtanmkamagdajpaaDoor
open Go.RowKit Go.Joins

set_option maxHeartbeats 1000000 in
theorem cubicAtS_yes (a b c d x : Int) (w : World) (g : CuG a b c d) (h1 : -10000 ≤ x) (h2 : x ≤ 10000) (V : Int) (hV : cuVal a b c d x 1 = V) : Calls Tryd.prog 19 #[.agg #[.int .i64 a, .int .i64 b, .int .i64 c, .int .i64 d], .int .i64 x] w (GivesIB w V true) := by
  have key := fun W => cuValue_any a b c d x 1 W g.2.1 g.2.2.1 g.2.2.2.1 g.2.2.2.2 ⟨h1, h2⟩ (by omega) V hV
  replace key := Lib.hid key
  clear hV
  have h := below_alloc1 w (.cells #[.int .i64 a, .int .i64 b, .int .i64 c, .int .i64 d] 24)
  have hx0 := Box.new w 24 #[.int .i64 a, .int .i64 b, .int .i64 c, .int .i64 d]
  obtain ⟨k0, k1, k2, k3⟩ := hx0.four
  go_enter Tryd.func19, Tryd.ntmps19
  go_wp2_with fail
  refine (cuGood_yes a b c d _ g).mono ?_
  rintro e w1 ⟨rfl, hb⟩
  replace h := Below.step h hb
  replace hx0 := hx0.kept hb
  clear hb k0 k1 k2 k3
  obtain ⟨k0, k1, k2, k3⟩ := hx0.four
  go_wp2_with fail
  refine (l1In_yes x (-10000) 10000 _ h1 h2).mono ?_
  rintro e w2 ⟨rfl, rfl⟩
  go_wp2_with fail
  refine (key.out _).mono ?_
  rintro e w3 ⟨rfl, hb⟩
  replace h := Below.step h hb
  replace hx0 := hx0.kept hb
  clear hb k0 k1 k2 k3
  obtain ⟨k0, k1, k2, k3⟩ := hx0.four
  go_wp2_with fail
  go_ret2
  exact ⟨rfl, h⟩

set_option maxHeartbeats 1000000 in
theorem cubicAtS_out (a b c d x : Int) (w : World) (g : CuG a b c d) (hx : x < -10000 ∨ 10000 < x) : Calls Tryd.prog 19 #[.agg #[.int .i64 a, .int .i64 b, .int .i64 c, .int .i64 d], .int .i64 x] w (GivesIB w 0 false) := by
  have h := below_alloc1 w (.cells #[.int .i64 a, .int .i64 b, .int .i64 c, .int .i64 d] 24)
  have hx0 := Box.new w 24 #[.int .i64 a, .int .i64 b, .int .i64 c, .int .i64 d]
  obtain ⟨k0, k1, k2, k3⟩ := hx0.four
  go_enter Tryd.func19, Tryd.ntmps19
  go_wp2_with fail
  refine (cuGood_yes a b c d _ g).mono ?_
  rintro e w1 ⟨rfl, hb⟩
  replace h := Below.step h hb
  replace hx0 := hx0.kept hb
  clear hb k0 k1 k2 k3
  obtain ⟨k0, k1, k2, k3⟩ := hx0.four
  go_wp2_with fail
  refine (l1In_no x (-10000) 10000 _ hx).mono ?_
  rintro e w2 ⟨rfl, rfl⟩
  go_wp2_with fail
  go_ret2
  exact ⟨rfl, h⟩

set_option maxHeartbeats 1000000 in
theorem cubicAtS_bad (a b c d x : Int) (w : World) (g : ¬ CuG a b c d) : Calls Tryd.prog 19 #[.agg #[.int .i64 a, .int .i64 b, .int .i64 c, .int .i64 d], .int .i64 x] w (GivesIB w 0 false) := by
  have h := below_alloc1 w (.cells #[.int .i64 a, .int .i64 b, .int .i64 c, .int .i64 d] 24)
  have hx0 := Box.new w 24 #[.int .i64 a, .int .i64 b, .int .i64 c, .int .i64 d]
  obtain ⟨k0, k1, k2, k3⟩ := hx0.four
  go_enter Tryd.func19, Tryd.ntmps19
  go_wp2_with fail
  refine (cuGood_no a b c d _ g).mono ?_
  rintro e w1 ⟨rfl, hb⟩
  replace h := Below.step h hb
  replace hx0 := hx0.kept hb
  clear hb k0 k1 k2 k3
  obtain ⟨k0, k1, k2, k3⟩ := hx0.four
  go_wp2_with fail
  go_ret2
  exact ⟨rfl, h⟩

def cuDis (a b c d : Int) : Int := b * b * c * c - 4 * a * c * c * c - 4 * b * b * b * d - 27 * a * a * d * d + 18 * a * b * c * d
theorem cuDis_bd {a b c d : Int} (ha : -1000 ≤ a ∧ a ≤ 1000) (hb : -1000 ≤ b ∧ b ≤ 1000) (hc : -1000 ≤ c ∧ c ≤ 1000) (hd : -1000 ≤ d ∧ d ≤ 1000) :
    (-1000000 ≤ b * b ∧ b * b ≤ 1000000) ∧ (-1000000000 ≤ b * b * c ∧ b * b * c ≤ 1000000000) ∧ (-1000000000000 ≤ b * b * c * c ∧ b * b * c * c ≤ 1000000000000) ∧ (-4000000 ≤ 4 * a * c ∧ 4 * a * c ≤ 4000000) ∧ (-4000000000 ≤ 4 * a * c * c ∧ 4 * a * c * c ≤ 4000000000) ∧ (-4000000000000 ≤ 4 * a * c * c * c ∧ 4 * a * c * c * c ≤ 4000000000000) ∧ (-4000000 ≤ 4 * b * b ∧ 4 * b * b ≤ 4000000) ∧ (-4000000000 ≤ 4 * b * b * b ∧ 4 * b * b * b ≤ 4000000000) ∧ (-4000000000000 ≤ 4 * b * b * b * d ∧ 4 * b * b * b * d ≤ 4000000000000) ∧ (-27000000 ≤ 27 * a * a ∧ 27 * a * a ≤ 27000000) ∧ (-27000000000 ≤ 27 * a * a * d ∧ 27 * a * a * d ≤ 27000000000) ∧ (-27000000000000 ≤ 27 * a * a * d * d ∧ 27 * a * a * d * d ≤ 27000000000000) ∧ (-18000000 ≤ 18 * a * b ∧ 18 * a * b ≤ 18000000) ∧ (-18000000000 ≤ 18 * a * b * c ∧ 18 * a * b * c ≤ 18000000000) ∧ (-18000000000000 ≤ 18 * a * b * c * d ∧ 18 * a * b * c * d ≤ 18000000000000) := by
  have q1 := fr_mul_bd (a := b) (M := 1000) (by omega) (by omega) hb.1 hb.2
  have q2 := fr_mul_bd (a := b * b) (M := 1000000) (by omega) (by omega) hc.1 hc.2
  have q3 := fr_mul_bd (a := b * b * c) (M := 1000000000) (by omega) (by omega) hc.1 hc.2
  have q4 := fr_mul_bd (a := 4 * a) (M := 4000) (by omega) (by omega) hc.1 hc.2
  have q5 := fr_mul_bd (a := 4 * a * c) (M := 4000000) (by omega) (by omega) hc.1 hc.2
  have q6 := fr_mul_bd (a := 4 * a * c * c) (M := 4000000000) (by omega) (by omega) hc.1 hc.2
  have q7 := fr_mul_bd (a := 4 * b) (M := 4000) (by omega) (by omega) hb.1 hb.2
  have q8 := fr_mul_bd (a := 4 * b * b) (M := 4000000) (by omega) (by omega) hb.1 hb.2
  have q9 := fr_mul_bd (a := 4 * b * b * b) (M := 4000000000) (by omega) (by omega) hd.1 hd.2
  have q10 := fr_mul_bd (a := 27 * a) (M := 27000) (by omega) (by omega) ha.1 ha.2
  have q11 := fr_mul_bd (a := 27 * a * a) (M := 27000000) (by omega) (by omega) hd.1 hd.2
  have q12 := fr_mul_bd (a := 27 * a * a * d) (M := 27000000000) (by omega) (by omega) hd.1 hd.2
  have q13 := fr_mul_bd (a := 18 * a) (M := 18000) (by omega) (by omega) hb.1 hb.2
  have q14 := fr_mul_bd (a := 18 * a * b) (M := 18000000) (by omega) (by omega) hc.1 hc.2
  have q15 := fr_mul_bd (a := 18 * a * b * c) (M := 18000000000) (by omega) (by omega) hd.1 hd.2
  refine ⟨by omega, by omega, by omega, by omega, by omega, by omega, by omega, by omega, by omega, by omega, by omega, by omega, by omega, by omega, by omega⟩

end Go.Proofs.YtanmkamagdajpaaDoor
