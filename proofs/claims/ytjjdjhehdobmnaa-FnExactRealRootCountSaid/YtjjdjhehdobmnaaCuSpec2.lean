/- The model's cuReal, RealRootCount, ReverseCubic (written by wip/gen/cuspec2.py). -/
import Derived.Test.YtjjdjhehdobmnaaCuSpec
namespace Go.Proofs.Ytjjdjhehdobmnaa
open Go.RowKit Go.Joins

theorem below_sets4 {B b : Nat} {w0 W : World} (h : Below B w0 W) (hb : B ≤ b) (u v x y : Value) : Below B w0 ((((W.setCell ⟨b, 0, none⟩ u).setCell ⟨b, 1, none⟩ v).setCell ⟨b, 2, none⟩ x).setCell ⟨b, 3, none⟩ y) :=
  (((h.setCell (p := ⟨b, 0, none⟩) hb u).setCell (p := ⟨b, 1, none⟩) hb v).setCell (p := ⟨b, 2, none⟩) hb x).setCell (p := ⟨b, 3, none⟩) hb y

def cuRe (a b c d : Int) : Int := if 0 < cuDis a b c d then 3 else if cuDis a b c d < 0 ∨ b * b = 3 * a * c then 1 else 2

set_option maxHeartbeats 1000000 in
theorem cuReal_three (a b c d : Int) (w : World) (ha : -1000 ≤ a ∧ a ≤ 1000) (hb : -1000 ≤ b ∧ b ≤ 1000) (hc : -1000 ≤ c ∧ c ≤ 1000) (hd : -1000 ≤ d ∧ d ≤ 1000) (V : Int) (hV : cuDis a b c d = V) (h0 : 0 < V) :
    Calls Try.prog 37 #[.agg #[.int .i64 a, .int .i64 b, .int .i64 c, .int .i64 d]] w (GivesI w 3) := by
  have key := fun W => cuDisc_any a b c d W ha hb hc hd V hV
  replace key := Lib.hid key
  have m1 := fr_mul_bd hb.1 hb.2 hb.1 hb.2
  have m2 := fr_mul_bd (a := 3 * a) (M := 3000) (by omega) (by omega) hc.1 hc.2
  rw [show ((1000 : Int) * 1000) = 1000000 from by decide] at m1
  rw [show ((3000 : Int) * 1000) = 3000000 from by decide] at m2
  obtain ⟨m1a, m1b⟩ := m1
  obtain ⟨m2a, m2b⟩ := m2
  obtain ⟨a1, a2⟩ := ha
  clear hb hc hd hV
  have h := below_alloc1 w (.cells #[.int .i64 a, .int .i64 b, .int .i64 c, .int .i64 d] 25)
  have hx0 := Box.new w 25 #[.int .i64 a, .int .i64 b, .int .i64 c, .int .i64 d]
  obtain ⟨k0, k1, k2, k3⟩ := hx0.four
  go_enter Try.func37, Try.ntmps37
  go_wp2_with fail
  refine (key.out _).mono ?_
  rintro e w1 ⟨rfl, hb⟩
  replace h := Below.step h hb
  replace hx0 := hx0.kept hb
  clear hb k0 k1 k2 k3
  obtain ⟨k0, k1, k2, k3⟩ := hx0.four
  go_wp2_with fail
  go_ret
  exact ⟨rfl, h⟩

set_option maxHeartbeats 1000000 in
theorem cuReal_one (a b c d : Int) (w : World) (ha : -1000 ≤ a ∧ a ≤ 1000) (hb : -1000 ≤ b ∧ b ≤ 1000) (hc : -1000 ≤ c ∧ c ≤ 1000) (hd : -1000 ≤ d ∧ d ≤ 1000) (V : Int) (hV : cuDis a b c d = V) (h0 : V < 0) :
    Calls Try.prog 37 #[.agg #[.int .i64 a, .int .i64 b, .int .i64 c, .int .i64 d]] w (GivesI w 1) := by
  have key := fun W => cuDisc_any a b c d W ha hb hc hd V hV
  replace key := Lib.hid key
  have m1 := fr_mul_bd hb.1 hb.2 hb.1 hb.2
  have m2 := fr_mul_bd (a := 3 * a) (M := 3000) (by omega) (by omega) hc.1 hc.2
  rw [show ((1000 : Int) * 1000) = 1000000 from by decide] at m1
  rw [show ((3000 : Int) * 1000) = 3000000 from by decide] at m2
  obtain ⟨m1a, m1b⟩ := m1
  obtain ⟨m2a, m2b⟩ := m2
  obtain ⟨a1, a2⟩ := ha
  clear hb hc hd hV
  have e0 : ¬ 0 < V := by omega
  have h := below_alloc1 w (.cells #[.int .i64 a, .int .i64 b, .int .i64 c, .int .i64 d] 25)
  have hx0 := Box.new w 25 #[.int .i64 a, .int .i64 b, .int .i64 c, .int .i64 d]
  obtain ⟨k0, k1, k2, k3⟩ := hx0.four
  go_enter Try.func37, Try.ntmps37
  go_wp2_with fail
  refine (key.out _).mono ?_
  rintro e w1 ⟨rfl, hb⟩
  replace h := Below.step h hb
  replace hx0 := hx0.kept hb
  clear hb k0 k1 k2 k3
  obtain ⟨k0, k1, k2, k3⟩ := hx0.four
  go_wp2_with fail
  go_ret
  exact ⟨rfl, h⟩

set_option maxHeartbeats 1000000 in
theorem cuReal_triple (a b c d : Int) (w : World) (ha : -1000 ≤ a ∧ a ≤ 1000) (hb : -1000 ≤ b ∧ b ≤ 1000) (hc : -1000 ≤ c ∧ c ≤ 1000) (hd : -1000 ≤ d ∧ d ≤ 1000) (V : Int) (hV : cuDis a b c d = V) (h0 : V = 0) (h1 : b * b = 3 * a * c) :
    Calls Try.prog 37 #[.agg #[.int .i64 a, .int .i64 b, .int .i64 c, .int .i64 d]] w (GivesI w 1) := by
  have key := fun W => cuDisc_any a b c d W ha hb hc hd V hV
  replace key := Lib.hid key
  have m1 := fr_mul_bd hb.1 hb.2 hb.1 hb.2
  have m2 := fr_mul_bd (a := 3 * a) (M := 3000) (by omega) (by omega) hc.1 hc.2
  rw [show ((1000 : Int) * 1000) = 1000000 from by decide] at m1
  rw [show ((3000 : Int) * 1000) = 3000000 from by decide] at m2
  obtain ⟨m1a, m1b⟩ := m1
  obtain ⟨m2a, m2b⟩ := m2
  obtain ⟨a1, a2⟩ := ha
  clear hb hc hd hV
  subst h0
  have e1 : (b * b == 3 * a * c) = true := beq_iff_eq.2 h1
  have h := below_alloc1 w (.cells #[.int .i64 a, .int .i64 b, .int .i64 c, .int .i64 d] 25)
  have hx0 := Box.new w 25 #[.int .i64 a, .int .i64 b, .int .i64 c, .int .i64 d]
  obtain ⟨k0, k1, k2, k3⟩ := hx0.four
  go_enter Try.func37, Try.ntmps37
  go_wp2_with fail
  refine (key.out _).mono ?_
  rintro e w1 ⟨rfl, hb⟩
  replace h := Below.step h hb
  replace hx0 := hx0.kept hb
  clear hb k0 k1 k2 k3
  obtain ⟨k0, k1, k2, k3⟩ := hx0.four
  go_wp2_with fail
  go_ret
  exact ⟨rfl, h⟩

set_option maxHeartbeats 1000000 in
theorem cuReal_two (a b c d : Int) (w : World) (ha : -1000 ≤ a ∧ a ≤ 1000) (hb : -1000 ≤ b ∧ b ≤ 1000) (hc : -1000 ≤ c ∧ c ≤ 1000) (hd : -1000 ≤ d ∧ d ≤ 1000) (V : Int) (hV : cuDis a b c d = V) (h0 : V = 0) (h1 : b * b ≠ 3 * a * c) :
    Calls Try.prog 37 #[.agg #[.int .i64 a, .int .i64 b, .int .i64 c, .int .i64 d]] w (GivesI w 2) := by
  have key := fun W => cuDisc_any a b c d W ha hb hc hd V hV
  replace key := Lib.hid key
  have m1 := fr_mul_bd hb.1 hb.2 hb.1 hb.2
  have m2 := fr_mul_bd (a := 3 * a) (M := 3000) (by omega) (by omega) hc.1 hc.2
  rw [show ((1000 : Int) * 1000) = 1000000 from by decide] at m1
  rw [show ((3000 : Int) * 1000) = 3000000 from by decide] at m2
  obtain ⟨m1a, m1b⟩ := m1
  obtain ⟨m2a, m2b⟩ := m2
  obtain ⟨a1, a2⟩ := ha
  clear hb hc hd hV
  subst h0
  have e1 : (b * b == 3 * a * c) = false := beq_eq_false_iff_ne.2 h1
  have h := below_alloc1 w (.cells #[.int .i64 a, .int .i64 b, .int .i64 c, .int .i64 d] 25)
  have hx0 := Box.new w 25 #[.int .i64 a, .int .i64 b, .int .i64 c, .int .i64 d]
  obtain ⟨k0, k1, k2, k3⟩ := hx0.four
  go_enter Try.func37, Try.ntmps37
  go_wp2_with fail
  refine (key.out _).mono ?_
  rintro e w1 ⟨rfl, hb⟩
  replace h := Below.step h hb
  replace hx0 := hx0.kept hb
  clear hb k0 k1 k2 k3
  obtain ⟨k0, k1, k2, k3⟩ := hx0.four
  go_wp2_with fail
  go_ret
  exact ⟨rfl, h⟩

theorem cuReal_any (a b c d : Int) (w : World) (g : CuG a b c d) : Calls Try.prog 37 #[.agg #[.int .i64 a, .int .i64 b, .int .i64 c, .int .i64 d]] w (GivesI w (cuRe a b c d)) := by
  obtain ⟨-, ha, hb, hc, hd⟩ := g
  unfold cuRe
  by_cases h1 : 0 < cuDis a b c d
  · rw [if_pos h1]; exact cuReal_three a b c d w ha hb hc hd _ rfl h1
  · rw [if_neg h1]
    by_cases h2 : cuDis a b c d < 0
    · rw [if_pos (.inl h2)]; exact cuReal_one a b c d w ha hb hc hd _ rfl h2
    · have h3 : cuDis a b c d = 0 := by omega
      by_cases h4 : b * b = 3 * a * c
      · rw [if_pos (.inr h4)]; exact cuReal_triple a b c d w ha hb hc hd _ rfl h3 h4
      · rw [if_neg (by omega)]; exact cuReal_two a b c d w ha hb hc hd _ rfl h3 h4

set_option maxHeartbeats 1000000 in
theorem realS_yes (a b c d : Int) (w : World) (g : CuG a b c d) (V : Int) (hV : cuRe a b c d = V) : Calls Try.prog 18 #[.agg #[.int .i64 a, .int .i64 b, .int .i64 c, .int .i64 d]] w (GivesIB w V true) := by
  have key := fun W => cuReal_any a b c d W g
  rw [hV] at key
  replace key := Lib.hid key
  clear hV
  have h := below_alloc1 w (.cells #[.int .i64 a, .int .i64 b, .int .i64 c, .int .i64 d] 25)
  have hx0 := Box.new w 25 #[.int .i64 a, .int .i64 b, .int .i64 c, .int .i64 d]
  obtain ⟨k0, k1, k2, k3⟩ := hx0.four
  go_enter Try.func18, Try.ntmps18
  go_wp2_with fail
  refine (cuGood_yes a b c d _ g).mono ?_
  rintro e w1 ⟨rfl, hb⟩
  replace h := Below.step h hb
  replace hx0 := hx0.kept hb
  clear hb k0 k1 k2 k3
  obtain ⟨k0, k1, k2, k3⟩ := hx0.four
  go_wp2_with fail
  refine (key.out _).mono ?_
  rintro e w3 ⟨rfl, hb⟩
  replace h := Below.step h hb
  replace hx0 := hx0.kept hb
  clear hb k0 k1 k2 k3
  obtain ⟨k0, k1, k2, k3⟩ := hx0.four
  go_wp2_with fail
  go_ret2
  exact ⟨rfl, h⟩

set_option maxHeartbeats 1000000 in
theorem realS_bad (a b c d : Int) (w : World) (g : ¬ CuG a b c d) : Calls Try.prog 18 #[.agg #[.int .i64 a, .int .i64 b, .int .i64 c, .int .i64 d]] w (GivesIB w 0 false) := by
  have h := below_alloc1 w (.cells #[.int .i64 a, .int .i64 b, .int .i64 c, .int .i64 d] 25)
  have hx0 := Box.new w 25 #[.int .i64 a, .int .i64 b, .int .i64 c, .int .i64 d]
  obtain ⟨k0, k1, k2, k3⟩ := hx0.four
  go_enter Try.func18, Try.ntmps18
  go_wp2_with fail
  refine (cuGood_no a b c d _ g).mono ?_
  rintro e w1 ⟨rfl, hb⟩
  replace h := Below.step h hb
  replace hx0 := hx0.kept hb
  clear hb k0 k1 k2 k3
  obtain ⟨k0, k1, k2, k3⟩ := hx0.four
  go_wp2_with fail
  go_ret2
  exact ⟨rfl, h⟩

set_option maxHeartbeats 1000000 in
theorem revS_yes (a b c d : Int) (w : World) (g : CuG a b c d) (hd : d ≠ 0) : Calls Try.prog 30 #[.agg #[.int .i64 a, .int .i64 b, .int .i64 c, .int .i64 d]] w (GivesCB w d c b a true) := by
  have e1 : (d == 0) = false := by simp [hd]
  have h := below_alloc1 w (.cells #[.int .i64 a, .int .i64 b, .int .i64 c, .int .i64 d] 25)
  have hx0 := Box.new w 25 #[.int .i64 a, .int .i64 b, .int .i64 c, .int .i64 d]
  have hA := below_alloc1 (w.alloc (.cells #[.int .i64 a, .int .i64 b, .int .i64 c, .int .i64 d] 25)) (.cells #[.int .i64 0, .int .i64 0, .int .i64 0, .int .i64 0] 25)
  have hxr := Box.new (w.alloc (.cells #[.int .i64 a, .int .i64 b, .int .i64 c, .int .i64 d] 25)) 25 #[.int .i64 0, .int .i64 0, .int .i64 0, .int .i64 0]
  rw [show (w.alloc (.cells #[.int .i64 a, .int .i64 b, .int .i64 c, .int .i64 d] 25)).heap.size = w.heap.size + 1 from by simp] at hxr
  replace h := Below.step h hA
  replace hx0 := hx0.kept hA
  clear hA
  obtain ⟨k0, k1, k2, k3⟩ := hx0.four
  go_enter Try.func30, Try.ntmps30
  go_wp2_with fail
  refine (cuGood_yes a b c d _ g).mono ?_
  rintro e w1 ⟨rfl, hb⟩
  replace h := Below.step h hb
  replace hx0 := hx0.kept hb
  replace hxr := hxr.kept hb
  clear hb k0 k1 k2 k3
  obtain ⟨k0, k1, k2, k3⟩ := hx0.four
  obtain ⟨r0, r1, r2, r3⟩ := hxr.four
  have f0 := hxr.free 0
  have f1 := hxr.free 1
  have f2 := hxr.free 2
  have f3 := hxr.free 3
  have lr := hxr.lt
  obtain ⟨s0, s1, s2, s3⟩ := ((((hxr.set 0 (.int .i64 d)).set 1 (.int .i64 c)).set 2 (.int .i64 b)).set 3 (.int .i64 a)).four
  go_wp2_with fail
  refine bodyPost_ret (v := .tuple #[.agg #[.int .i64 d, .int .i64 c, .int .i64 b, .int .i64 a], .bool true]) (by simp [results, Try.results30, go_sem, s0, s1, s2, s3]) (by rfl) ⟨by rfl, ?_⟩
  exact below_sets4 h (Nat.le_succ _) _ _ _ _

set_option maxHeartbeats 1000000 in
theorem revS_zero (a b c d : Int) (w : World) (g : CuG a b c d) (hd : d = 0) : Calls Try.prog 30 #[.agg #[.int .i64 a, .int .i64 b, .int .i64 c, .int .i64 d]] w (GivesCB w 0 0 0 0 false) := by
  have e1 : (d == 0) = true := by simp [hd]
  clear hd
  have h := below_alloc1 w (.cells #[.int .i64 a, .int .i64 b, .int .i64 c, .int .i64 d] 25)
  have hx0 := Box.new w 25 #[.int .i64 a, .int .i64 b, .int .i64 c, .int .i64 d]
  have hA := below_alloc1 (w.alloc (.cells #[.int .i64 a, .int .i64 b, .int .i64 c, .int .i64 d] 25)) (.cells #[.int .i64 0, .int .i64 0, .int .i64 0, .int .i64 0] 25)
  have hxr := Box.new (w.alloc (.cells #[.int .i64 a, .int .i64 b, .int .i64 c, .int .i64 d] 25)) 25 #[.int .i64 0, .int .i64 0, .int .i64 0, .int .i64 0]
  rw [show (w.alloc (.cells #[.int .i64 a, .int .i64 b, .int .i64 c, .int .i64 d] 25)).heap.size = w.heap.size + 1 from by simp] at hxr
  replace h := Below.step h hA
  replace hx0 := hx0.kept hA
  clear hA
  obtain ⟨k0, k1, k2, k3⟩ := hx0.four
  go_enter Try.func30, Try.ntmps30
  go_wp2_with fail
  refine (cuGood_yes a b c d _ g).mono ?_
  rintro e w1 ⟨rfl, hb⟩
  replace h := Below.step h hb
  replace hx0 := hx0.kept hb
  replace hxr := hxr.kept hb
  clear hb k0 k1 k2 k3
  obtain ⟨k0, k1, k2, k3⟩ := hx0.four
  obtain ⟨r0, r1, r2, r3⟩ := hxr.four
  have f0 := hxr.free 0
  have f1 := hxr.free 1
  have f2 := hxr.free 2
  have f3 := hxr.free 3
  have lr := hxr.lt
  obtain ⟨s0, s1, s2, s3⟩ := ((((hxr.set 0 (.int .i64 0)).set 1 (.int .i64 0)).set 2 (.int .i64 0)).set 3 (.int .i64 0)).four
  go_wp2_with fail
  refine bodyPost_ret (v := .tuple #[.agg #[.int .i64 0, .int .i64 0, .int .i64 0, .int .i64 0], .bool false]) (by simp [results, Try.results30, go_sem, s0, s1, s2, s3]) (by rfl) ⟨by rfl, ?_⟩
  exact below_sets4 h (Nat.le_succ _) _ _ _ _

set_option maxHeartbeats 1000000 in
theorem revS_bad (a b c d : Int) (w : World) (g : ¬ CuG a b c d) : Calls Try.prog 30 #[.agg #[.int .i64 a, .int .i64 b, .int .i64 c, .int .i64 d]] w (GivesCB w 0 0 0 0 false) := by
  have h := below_alloc1 w (.cells #[.int .i64 a, .int .i64 b, .int .i64 c, .int .i64 d] 25)
  have hx0 := Box.new w 25 #[.int .i64 a, .int .i64 b, .int .i64 c, .int .i64 d]
  have hA := below_alloc1 (w.alloc (.cells #[.int .i64 a, .int .i64 b, .int .i64 c, .int .i64 d] 25)) (.cells #[.int .i64 0, .int .i64 0, .int .i64 0, .int .i64 0] 25)
  have hxr := Box.new (w.alloc (.cells #[.int .i64 a, .int .i64 b, .int .i64 c, .int .i64 d] 25)) 25 #[.int .i64 0, .int .i64 0, .int .i64 0, .int .i64 0]
  rw [show (w.alloc (.cells #[.int .i64 a, .int .i64 b, .int .i64 c, .int .i64 d] 25)).heap.size = w.heap.size + 1 from by simp] at hxr
  replace h := Below.step h hA
  replace hx0 := hx0.kept hA
  clear hA
  obtain ⟨k0, k1, k2, k3⟩ := hx0.four
  go_enter Try.func30, Try.ntmps30
  go_wp2_with fail
  refine (cuGood_no a b c d _ g).mono ?_
  rintro e w1 ⟨rfl, hb⟩
  replace h := Below.step h hb
  replace hx0 := hx0.kept hb
  replace hxr := hxr.kept hb
  clear hb k0 k1 k2 k3
  obtain ⟨k0, k1, k2, k3⟩ := hx0.four
  obtain ⟨r0, r1, r2, r3⟩ := hxr.four
  have f0 := hxr.free 0
  have f1 := hxr.free 1
  have f2 := hxr.free 2
  have f3 := hxr.free 3
  have lr := hxr.lt
  obtain ⟨s0, s1, s2, s3⟩ := ((((hxr.set 0 (.int .i64 0)).set 1 (.int .i64 0)).set 2 (.int .i64 0)).set 3 (.int .i64 0)).four
  go_wp2_with fail
  refine bodyPost_ret (v := .tuple #[.agg #[.int .i64 0, .int .i64 0, .int .i64 0, .int .i64 0], .bool false]) (by simp [results, Try.results30, go_sem, s0, s1, s2, s3]) (by rfl) ⟨by rfl, ?_⟩
  exact below_sets4 h (Nat.le_succ _) _ _ _ _
end Go.Proofs.Ytjjdjhehdobmnaa
