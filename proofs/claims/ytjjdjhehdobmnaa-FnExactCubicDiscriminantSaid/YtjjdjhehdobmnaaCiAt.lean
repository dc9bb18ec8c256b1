/- The program's sign of a value, CubicAt, CubicDiscriminant, RealRootCount, validCubic, ReverseCubic (written by wip/gen/cui.py). -/
import Derived.Test.YtjjdjhehdobmnaaCiBase
import Derived.Deep.QuietTactic
import Derived.BigQuiet
import Derived.RegionTactic
import Derived.ChangeAlike
namespace Go.Proofs.Ytjjdjhehdobmnaa
open Go.RowKit Go.Joins

theorem compare_any (x y : Int) (w : World) : Calls Try.prog 46 #[.int .i64 x, .int .i64 y] w fun e w' => e = .returned (.int .i64 (sgn (x - y))) ∧ w = w' := by
  unfold sgn
  by_cases h1 : 0 < x - y
  · rw [if_pos h1]; exact compare_gt x y w (by omega)
  · rw [if_neg h1]
    by_cases h2 : x - y < 0
    · rw [if_pos h2]; exact compare_lt x y w (by omega)
    · rw [if_neg h2]; exact compare_eq x y w (by omega)

set_option maxHeartbeats 1000000 in
theorem signI_any (a b c d n m : Int) (g : Nat) (w : World) (hx : Box w g 25 #[.int .i64 a, .int .i64 b, .int .i64 c, .int .i64 d]) (ha : -1000 ≤ a ∧ a ≤ 1000) (hb : -1000 ≤ b ∧ b ≤ 1000) (hc : -1000 ≤ c ∧ c ≤ 1000) (hd : -1000 ≤ d ∧ d ≤ 1000) (hn : -10000 ≤ n ∧ n ≤ 10000) (hm : -1000 ≤ m ∧ m ≤ 1000) (S : Int) (hS : sgn (cuVal a b c d n m) = S) :
    Calls Try.prog 39 #[.agg #[.func (.func 45) #[] #[.pointer (some ⟨g, 0, none⟩)]], .int .i64 n, .int .i64 m] w fun e w' => e = .returned (.int .i64 S) ∧ w.alloc (.cells #[.func (.func 45) #[] #[.pointer (some ⟨g, 0, none⟩)]] 47) = w' := by
  obtain ⟨V, hV⟩ : ∃ V, cuVal a b c d n m = V := ⟨_, rfl⟩
  have key := fun (W : World) (h : Box W g 25 #[.int .i64 a, .int .i64 b, .int .i64 c, .int .i64 d]) => value_any a b c d n m g W h ha hb hc hd hn hm V hV
  have kc := fun (W : World) => compare_any V 0 W
  rw [hV] at hS
  rw [Int.sub_zero, hS] at kc
  have hA := below_alloc1 w (.cells #[.func (.func 45) #[] #[.pointer (some ⟨g, 0, none⟩)]] 47)
  have hx2 := hx.kept hA
  have hxv := Box.new w 47 #[.func (.func 45) #[] #[.pointer (some ⟨g, 0, none⟩)]]
  have kk := Box.one hxv
  have k2 := key _ hx2
  replace k2 := Lib.hid k2
  replace kc := Lib.hid kc
  clear hV hS ha hb hc hd hn hm key hx hxv hA hx2
  go_enter Try.func39, Try.ntmps39
  go_wp2_with fail
  refine (k2.out).mono ?_
  rintro e w1 ⟨rfl, rfl⟩
  go_wp2_with fail
  refine (kc.out _).mono ?_
  rintro e w1 ⟨rfl, rfl⟩
  go_wp2_with fail
  go_ret
  exact ⟨rfl, rfl⟩

set_option maxHeartbeats 1000000 in
theorem cubicAtI_yes (a b c d x : Int) (w : World) (g : CuG a b c d) (h1 : -10000 ≤ x) (h2 : x ≤ 10000) (V : Int) (hV : cuVal a b c d x 1 = V) : Calls Try.prog 15 #[.agg #[.int .i64 a, .int .i64 b, .int .i64 c, .int .i64 d], .int .i64 x] w (GivesIB w V true) := by
  have key := fun (gv : Nat) (W : World) (hv : Box W gv 25 #[.int .i64 a, .int .i64 b, .int .i64 c, .int .i64 d]) => value_any a b c d x 1 gv W hv g.2.1 g.2.2.1 g.2.2.2.1 g.2.2.2.2 ⟨h1, h2⟩ (by omega) V hV
  replace key := Lib.hid key
  have hfd := field_values
  clear hV
  have h := below_alloc1 w (.cells #[.int .i64 a, .int .i64 b, .int .i64 c, .int .i64 d] 25)
  have hx0 := Box.new w 25 #[.int .i64 a, .int .i64 b, .int .i64 c, .int .i64 d]
  obtain ⟨k0, k1, k2, k3⟩ := hx0.four
  go_enter Try.func15, Try.ntmps15
  go_wp2_with fail
  refine (isCubicI_yes a b c d _ g).mono ?_
  rintro e w1 ⟨rfl, hb⟩
  replace h := Below.step h hb
  replace hx0 := hx0.kept hb
  clear hb k0 k1 k2 k3
  obtain ⟨k0, k1, k2, k3⟩ := hx0.four
  go_wp2_with fail
  refine (valuesOf_any a b c d _).mono ?_
  rintro e w2 ⟨gv, rfl, hv, hgv, hb⟩
  replace h := Below.step h hb
  replace hx0 := hx0.kept hb
  clear hb k0 k1 k2 k3
  obtain ⟨k0, k1, k2, k3⟩ := hx0.four
  go_wp2_with fail
  refine (key.out _ _ hv).mono ?_
  rintro e w3 ⟨rfl, rfl⟩
  go_wp2_with fail
  go_ret2
  exact ⟨rfl, h⟩

set_option maxHeartbeats 1000000 in
theorem cubicAtI_out (a b c d x : Int) (w : World) (g : CuG a b c d) (hx : x < -10000 ∨ 10000 < x) : Calls Try.prog 15 #[.agg #[.int .i64 a, .int .i64 b, .int .i64 c, .int .i64 d], .int .i64 x] w (GivesIB w 0 false) := by
  by_cases hx1 : x < -10000
  · clear hx
    have h := below_alloc1 w (.cells #[.int .i64 a, .int .i64 b, .int .i64 c, .int .i64 d] 25)
    have hx0 := Box.new w 25 #[.int .i64 a, .int .i64 b, .int .i64 c, .int .i64 d]
    obtain ⟨k0, k1, k2, k3⟩ := hx0.four
    go_enter Try.func15, Try.ntmps15
    go_wp2_with fail
    refine (isCubicI_yes a b c d _ g).mono ?_
    rintro e w1 ⟨rfl, hb⟩
    replace h := Below.step h hb
    go_wp2_with fail
    go_ret2
    exact ⟨rfl, h⟩
  · have hx2 : 10000 < x := by omega
    clear hx
    have h := below_alloc1 w (.cells #[.int .i64 a, .int .i64 b, .int .i64 c, .int .i64 d] 25)
    have hx0 := Box.new w 25 #[.int .i64 a, .int .i64 b, .int .i64 c, .int .i64 d]
    obtain ⟨k0, k1, k2, k3⟩ := hx0.four
    go_enter Try.func15, Try.ntmps15
    go_wp2_with fail
    refine (isCubicI_yes a b c d _ g).mono ?_
    rintro e w1 ⟨rfl, hb⟩
    replace h := Below.step h hb
    go_wp2_with fail
    go_ret2
    exact ⟨rfl, h⟩

set_option maxHeartbeats 1000000 in
theorem cubicAtI_bad (a b c d x : Int) (w : World) (g : ¬ CuG a b c d) : Calls Try.prog 15 #[.agg #[.int .i64 a, .int .i64 b, .int .i64 c, .int .i64 d], .int .i64 x] w (GivesIB w 0 false) := by
  have h := below_alloc1 w (.cells #[.int .i64 a, .int .i64 b, .int .i64 c, .int .i64 d] 25)
  have hx0 := Box.new w 25 #[.int .i64 a, .int .i64 b, .int .i64 c, .int .i64 d]
  obtain ⟨k0, k1, k2, k3⟩ := hx0.four
  go_enter Try.func15, Try.ntmps15
  go_wp2_with fail
  refine (isCubicI_no a b c d _ g).mono ?_
  rintro e w1 ⟨rfl, hb⟩
  replace h := Below.step h hb
  replace hx0 := hx0.kept hb
  clear hb k0 k1 k2 k3
  obtain ⟨k0, k1, k2, k3⟩ := hx0.four
  go_wp2_with fail
  go_ret2
  exact ⟨rfl, h⟩

set_option maxHeartbeats 4000000 in
theorem discI_yes (a b c d : Int) (w : World) (g : CuG a b c d) (V : Int) (hV : cuDis a b c d = V) : Calls Try.prog 17 #[.agg #[.int .i64 a, .int .i64 b, .int .i64 c, .int .i64 d]] w (GivesIB w V true) := by
  have gg := Lib.hid g
  have h := below_alloc1 w (.cells #[.int .i64 a, .int .i64 b, .int .i64 c, .int .i64 d] 25)
  have hx0 := Box.new w 25 #[.int .i64 a, .int .i64 b, .int .i64 c, .int .i64 d]
  obtain ⟨k0, k1, k2, k3⟩ := hx0.four
  obtain ⟨⟨x0, y0⟩, ⟨x1, y1⟩, ⟨x2, y2⟩, ⟨x3, y3⟩, ⟨x4, y4⟩, ⟨x5, y5⟩, ⟨x6, y6⟩, ⟨x7, y7⟩, ⟨x8, y8⟩, ⟨x9, y9⟩, ⟨x10, y10⟩, ⟨x11, y11⟩, ⟨x12, y12⟩, ⟨x13, y13⟩, ⟨x14, y14⟩⟩ := cuDis_bd g.2.1 g.2.2.1 g.2.2.2.1 g.2.2.2.2
  obtain ⟨a1, a2⟩ := g.2.1
  obtain ⟨b1, b2⟩ := g.2.2.1
  replace hV := Lib.hid hV
  clear g
  go_enter Try.func17, Try.ntmps17
  go_wp2_with fail
  refine (isCubicI_yes a b c d _ gg.out).mono ?_
  rintro e w1 ⟨rfl, hb⟩
  replace h := Below.step h hb
  replace hx0 := hx0.kept hb
  clear hb k0 k1 k2 k3
  obtain ⟨k0, k1, k2, k3⟩ := hx0.four
  go_wp2_with fail
  go_quiet (fail)
  go_wp2_with fail
  go_ret2
  exact ⟨congrArg (fun z => Ending.returned (.tuple #[.int .i64 z, .bool true])) hV.out, Below.drewN' h _⟩

set_option maxHeartbeats 1000000 in
theorem discI_bad (a b c d : Int) (w : World) (g : ¬ CuG a b c d) : Calls Try.prog 17 #[.agg #[.int .i64 a, .int .i64 b, .int .i64 c, .int .i64 d]] w (GivesIB w 0 false) := by
  have h := below_alloc1 w (.cells #[.int .i64 a, .int .i64 b, .int .i64 c, .int .i64 d] 25)
  have hx0 := Box.new w 25 #[.int .i64 a, .int .i64 b, .int .i64 c, .int .i64 d]
  obtain ⟨k0, k1, k2, k3⟩ := hx0.four
  go_enter Try.func17, Try.ntmps17
  go_wp2_with fail
  refine (isCubicI_no a b c d _ g).mono ?_
  rintro e w1 ⟨rfl, hb⟩
  replace h := Below.step h hb
  replace hx0 := hx0.kept hb
  clear hb k0 k1 k2 k3
  obtain ⟨k0, k1, k2, k3⟩ := hx0.four
  go_wp2_with fail
  go_ret2
  exact ⟨rfl, h⟩

set_option maxHeartbeats 1000000 in
theorem realI_three (a b c d : Int) (w : World) (g : CuG a b c d) (V : Int) (hV : cuDis a b c d = V) (h0 : 0 < V) : Calls Try.prog 19 #[.agg #[.int .i64 a, .int .i64 b, .int .i64 c, .int .i64 d]] w (GivesIB w 3 true) := by
  have key := fun (W : World) => discI_yes a b c d W g V hV
  replace key := Lib.hid key
  obtain ⟨-, ha, hb, hc, hd⟩ := g
  have m1 := fr_mul_bd hb.1 hb.2 hb.1 hb.2
  have m2 := fr_mul_bd (a := 3 * a) (M := 3000) (by omega) (by omega) hc.1 hc.2
  rw [show ((1000 : Int) * 1000) = 1000000 from by decide] at m1
  rw [show ((3000 : Int) * 1000) = 3000000 from by decide] at m2
  obtain ⟨m1a, m1b⟩ := m1
  obtain ⟨m2a, m2b⟩ := m2
  obtain ⟨a1, a2⟩ := ha
  clear hb hc hd hV
  have h := below_alloc1 w (.cells #[.int .i64 a, .int .i64 b, .int .i64 c, .int .i64 d] 25)
  have hx0 := Box.new w 25 #[.int .i64 a, .int .i64 b, .int .i64 c, .int .i64 d]
  obtain ⟨k0, k1, k2, k3⟩ := hx0.four
  go_enter Try.func19, Try.ntmps19
  go_wp2_with fail
  refine (key.out _).mono ?_
  rintro e w1 ⟨rfl, hb⟩
  replace h := Below.step h hb
  replace hx0 := hx0.kept hb
  clear hb k0 k1 k2 k3
  obtain ⟨k0, k1, k2, k3⟩ := hx0.four
  go_wp2_with fail
  go_ret2
  exact ⟨rfl, h⟩

set_option maxHeartbeats 1000000 in
theorem realI_one (a b c d : Int) (w : World) (g : CuG a b c d) (V : Int) (hV : cuDis a b c d = V) (h0 : V < 0) : Calls Try.prog 19 #[.agg #[.int .i64 a, .int .i64 b, .int .i64 c, .int .i64 d]] w (GivesIB w 1 true) := by
  have key := fun (W : World) => discI_yes a b c d W g V hV
  replace key := Lib.hid key
  obtain ⟨-, ha, hb, hc, hd⟩ := g
  have m1 := fr_mul_bd hb.1 hb.2 hb.1 hb.2
  have m2 := fr_mul_bd (a := 3 * a) (M := 3000) (by omega) (by omega) hc.1 hc.2
  rw [show ((1000 : Int) * 1000) = 1000000 from by decide] at m1
  rw [show ((3000 : Int) * 1000) = 3000000 from by decide] at m2
  obtain ⟨m1a, m1b⟩ := m1
  obtain ⟨m2a, m2b⟩ := m2
  obtain ⟨a1, a2⟩ := ha
  clear hb hc hd hV
  have e0 : ¬ 0 < V := by omega
  have h := below_alloc1 w (.cells #[.int .i64 a, .int .i64 b, .int .i64 c, .int .i64 d] 25)
  have hx0 := Box.new w 25 #[.int .i64 a, .int .i64 b, .int .i64 c, .int .i64 d]
  obtain ⟨k0, k1, k2, k3⟩ := hx0.four
  go_enter Try.func19, Try.ntmps19
  go_wp2_with fail
  refine (key.out _).mono ?_
  rintro e w1 ⟨rfl, hb⟩
  replace h := Below.step h hb
  replace hx0 := hx0.kept hb
  clear hb k0 k1 k2 k3
  obtain ⟨k0, k1, k2, k3⟩ := hx0.four
  go_wp2_with fail
  go_ret2
  exact ⟨rfl, h⟩

set_option maxHeartbeats 1000000 in
theorem realI_triple (a b c d : Int) (w : World) (g : CuG a b c d) (V : Int) (hV : cuDis a b c d = V) (h0 : V = 0) (h1 : b * b = 3 * a * c) : Calls Try.prog 19 #[.agg #[.int .i64 a, .int .i64 b, .int .i64 c, .int .i64 d]] w (GivesIB w 1 true) := by
  have key := fun (W : World) => discI_yes a b c d W g V hV
  replace key := Lib.hid key
  obtain ⟨-, ha, hb, hc, hd⟩ := g
  have m1 := fr_mul_bd hb.1 hb.2 hb.1 hb.2
  have m2 := fr_mul_bd (a := 3 * a) (M := 3000) (by omega) (by omega) hc.1 hc.2
  rw [show ((1000 : Int) * 1000) = 1000000 from by decide] at m1
  rw [show ((3000 : Int) * 1000) = 3000000 from by decide] at m2
  obtain ⟨m1a, m1b⟩ := m1
  obtain ⟨m2a, m2b⟩ := m2
  obtain ⟨a1, a2⟩ := ha
  clear hb hc hd hV
  subst h0
  have e1 : (b * b == 3 * a * c) = true := beq_iff_eq.2 h1
  have h := below_alloc1 w (.cells #[.int .i64 a, .int .i64 b, .int .i64 c, .int .i64 d] 25)
  have hx0 := Box.new w 25 #[.int .i64 a, .int .i64 b, .int .i64 c, .int .i64 d]
  obtain ⟨k0, k1, k2, k3⟩ := hx0.four
  go_enter Try.func19, Try.ntmps19
  go_wp2_with fail
  refine (key.out _).mono ?_
  rintro e w1 ⟨rfl, hb⟩
  replace h := Below.step h hb
  replace hx0 := hx0.kept hb
  clear hb k0 k1 k2 k3
  obtain ⟨k0, k1, k2, k3⟩ := hx0.four
  go_wp2_with fail
  go_ret2
  exact ⟨rfl, h⟩

set_option maxHeartbeats 1000000 in
theorem realI_two (a b c d : Int) (w : World) (g : CuG a b c d) (V : Int) (hV : cuDis a b c d = V) (h0 : V = 0) (h1 : b * b ≠ 3 * a * c) : Calls Try.prog 19 #[.agg #[.int .i64 a, .int .i64 b, .int .i64 c, .int .i64 d]] w (GivesIB w 2 true) := by
  have key := fun (W : World) => discI_yes a b c d W g V hV
  replace key := Lib.hid key
  obtain ⟨-, ha, hb, hc, hd⟩ := g
  have m1 := fr_mul_bd hb.1 hb.2 hb.1 hb.2
  have m2 := fr_mul_bd (a := 3 * a) (M := 3000) (by omega) (by omega) hc.1 hc.2
  rw [show ((1000 : Int) * 1000) = 1000000 from by decide] at m1
  rw [show ((3000 : Int) * 1000) = 3000000 from by decide] at m2
  obtain ⟨m1a, m1b⟩ := m1
  obtain ⟨m2a, m2b⟩ := m2
  obtain ⟨a1, a2⟩ := ha
  clear hb hc hd hV
  subst h0
  have e1 : (b * b == 3 * a * c) = false := beq_eq_false_iff_ne.2 h1
  have h := below_alloc1 w (.cells #[.int .i64 a, .int .i64 b, .int .i64 c, .int .i64 d] 25)
  have hx0 := Box.new w 25 #[.int .i64 a, .int .i64 b, .int .i64 c, .int .i64 d]
  obtain ⟨k0, k1, k2, k3⟩ := hx0.four
  go_enter Try.func19, Try.ntmps19
  go_wp2_with fail
  refine (key.out _).mono ?_
  rintro e w1 ⟨rfl, hb⟩
  replace h := Below.step h hb
  replace hx0 := hx0.kept hb
  clear hb k0 k1 k2 k3
  obtain ⟨k0, k1, k2, k3⟩ := hx0.four
  go_wp2_with fail
  go_ret2
  exact ⟨rfl, h⟩

theorem realI_yes (a b c d : Int) (w : World) (g : CuG a b c d) : Calls Try.prog 19 #[.agg #[.int .i64 a, .int .i64 b, .int .i64 c, .int .i64 d]] w (GivesIB w (cuRe a b c d) true) := by
  unfold cuRe
  by_cases h1 : 0 < cuDis a b c d
  · rw [if_pos h1]; exact realI_three a b c d w g _ rfl h1
  · rw [if_neg h1]
    by_cases h2 : cuDis a b c d < 0
    · rw [if_pos (.inl h2)]; exact realI_one a b c d w g _ rfl h2
    · have h3 : cuDis a b c d = 0 := by omega
      by_cases h4 : b * b = 3 * a * c
      · rw [if_pos (.inr h4)]; exact realI_triple a b c d w g _ rfl h3 h4
      · rw [if_neg (by omega)]; exact realI_two a b c d w g _ rfl h3 h4

set_option maxHeartbeats 1000000 in
theorem realI_bad (a b c d : Int) (w : World) (g : ¬ CuG a b c d) : Calls Try.prog 19 #[.agg #[.int .i64 a, .int .i64 b, .int .i64 c, .int .i64 d]] w (GivesIB w 0 false) := by
  have key := fun (W : World) => discI_bad a b c d W g
  replace key := Lib.hid key
  have h := below_alloc1 w (.cells #[.int .i64 a, .int .i64 b, .int .i64 c, .int .i64 d] 25)
  have hx0 := Box.new w 25 #[.int .i64 a, .int .i64 b, .int .i64 c, .int .i64 d]
  obtain ⟨k0, k1, k2, k3⟩ := hx0.four
  go_enter Try.func19, Try.ntmps19
  go_wp2_with fail
  refine (key.out _).mono ?_
  rintro e w1 ⟨rfl, hb⟩
  replace h := Below.step h hb
  replace hx0 := hx0.kept hb
  clear hb k0 k1 k2 k3
  obtain ⟨k0, k1, k2, k3⟩ := hx0.four
  go_wp2_with fail
  go_ret2
  exact ⟨rfl, h⟩

set_option maxHeartbeats 1000000 in
theorem validI_yes (a b c d : Int) (w : World) (g : CuG a b c d) : Calls Try.prog 43 #[.agg #[.int .i64 a, .int .i64 b, .int .i64 c, .int .i64 d]] w (GivesCB w a b c d true) := by
  have h := below_alloc1 w (.cells #[.int .i64 a, .int .i64 b, .int .i64 c, .int .i64 d] 25)
  have hx0 := Box.new w 25 #[.int .i64 a, .int .i64 b, .int .i64 c, .int .i64 d]
  have hA := below_alloc1 (w.alloc (.cells #[.int .i64 a, .int .i64 b, .int .i64 c, .int .i64 d] 25)) (.cells #[.int .i64 0, .int .i64 0, .int .i64 0, .int .i64 0] 25)
  have hxr := Box.new (w.alloc (.cells #[.int .i64 a, .int .i64 b, .int .i64 c, .int .i64 d] 25)) 25 #[.int .i64 0, .int .i64 0, .int .i64 0, .int .i64 0]
  rw [show (w.alloc (.cells #[.int .i64 a, .int .i64 b, .int .i64 c, .int .i64 d] 25)).heap.size = w.heap.size + 1 from by simp] at hxr
  replace h := Below.step h hA
  replace hx0 := hx0.kept hA
  clear hA
  obtain ⟨k0, k1, k2, k3⟩ := hx0.four
  go_enter Try.func43, Try.ntmps43
  go_wp2_with fail
  refine (isCubicI_yes a b c d _ g).mono ?_
  rintro e w1 ⟨rfl, hb⟩
  replace h := Below.step h hb
  replace hx0 := hx0.kept hb
  replace hxr := hxr.kept hb
  clear hb k0 k1 k2 k3
  obtain ⟨k0, k1, k2, k3⟩ := hx0.four
  obtain ⟨r0, r1, r2, r3⟩ := hxr.four
  have f0 := hxr.free 0
  have f1 := hxr.free 1
  have f2 := hxr.free 2
  have f3 := hxr.free 3
  have lr := hxr.lt
  obtain ⟨s0, s1, s2, s3⟩ := ((((hxr.set 0 (.int .i64 a)).set 1 (.int .i64 b)).set 2 (.int .i64 c)).set 3 (.int .i64 d)).four
  go_wp2_with fail
  refine bodyPost_ret (v := .tuple #[.agg #[.int .i64 a, .int .i64 b, .int .i64 c, .int .i64 d], .bool true]) (by simp [results, Try.results43, go_sem, s0, s1, s2, s3]) (by rfl) ⟨by rfl, ?_⟩
  exact below_sets4 h (Nat.le_succ _) _ _ _ _

set_option maxHeartbeats 1000000 in
theorem validI_no (a b c d : Int) (w : World) (g : ¬ CuG a b c d) : Calls Try.prog 43 #[.agg #[.int .i64 a, .int .i64 b, .int .i64 c, .int .i64 d]] w (GivesCB w 0 0 0 0 false) := by
  have h := below_alloc1 w (.cells #[.int .i64 a, .int .i64 b, .int .i64 c, .int .i64 d] 25)
  have hx0 := Box.new w 25 #[.int .i64 a, .int .i64 b, .int .i64 c, .int .i64 d]
  have hA := below_alloc1 (w.alloc (.cells #[.int .i64 a, .int .i64 b, .int .i64 c, .int .i64 d] 25)) (.cells #[.int .i64 0, .int .i64 0, .int .i64 0, .int .i64 0] 25)
  have hxr := Box.new (w.alloc (.cells #[.int .i64 a, .int .i64 b, .int .i64 c, .int .i64 d] 25)) 25 #[.int .i64 0, .int .i64 0, .int .i64 0, .int .i64 0]
  rw [show (w.alloc (.cells #[.int .i64 a, .int .i64 b, .int .i64 c, .int .i64 d] 25)).heap.size = w.heap.size + 1 from by simp] at hxr
  replace h := Below.step h hA
  replace hx0 := hx0.kept hA
  clear hA
  obtain ⟨k0, k1, k2, k3⟩ := hx0.four
  go_enter Try.func43, Try.ntmps43
  go_wp2_with fail
  refine (isCubicI_no a b c d _ g).mono ?_
  rintro e w1 ⟨rfl, hb⟩
  replace h := Below.step h hb
  replace hx0 := hx0.kept hb
  replace hxr := hxr.kept hb
  clear hb k0 k1 k2 k3
  obtain ⟨k0, k1, k2, k3⟩ := hx0.four
  obtain ⟨r0, r1, r2, r3⟩ := hxr.four
  have f0 := hxr.free 0
  have f1 := hxr.free 1
  have f2 := hxr.free 2
  have f3 := hxr.free 3
  have lr := hxr.lt
  obtain ⟨s0, s1, s2, s3⟩ := ((((hxr.set 0 (.int .i64 0)).set 1 (.int .i64 0)).set 2 (.int .i64 0)).set 3 (.int .i64 0)).four
  go_wp2_with fail
  refine bodyPost_ret (v := .tuple #[.agg #[.int .i64 0, .int .i64 0, .int .i64 0, .int .i64 0], .bool false]) (by simp [results, Try.results43, go_sem, s0, s1, s2, s3]) (by rfl) ⟨by rfl, ?_⟩
  exact below_sets4 h (Nat.le_succ _) _ _ _ _

set_option maxHeartbeats 1000000 in
theorem revI_yes (a b c d : Int) (w : World) (g : CuG a b c d) (hg2 : CuG d c b a) : Calls Try.prog 31 #[.agg #[.int .i64 a, .int .i64 b, .int .i64 c, .int .i64 d]] w (GivesCB w d c b a true) := by
  have key := fun (W : World) => validI_yes d c b a W hg2
  replace key := Lib.hid key
  clear hg2
  have h := below_alloc1 w (.cells #[.int .i64 a, .int .i64 b, .int .i64 c, .int .i64 d] 25)
  have hx0 := Box.new w 25 #[.int .i64 a, .int .i64 b, .int .i64 c, .int .i64 d]
  have hA := below_alloc1 (w.alloc (.cells #[.int .i64 a, .int .i64 b, .int .i64 c, .int .i64 d] 25)) (.cells #[.int .i64 0, .int .i64 0, .int .i64 0, .int .i64 0] 25)
  have hxr := Box.new (w.alloc (.cells #[.int .i64 a, .int .i64 b, .int .i64 c, .int .i64 d] 25)) 25 #[.int .i64 0, .int .i64 0, .int .i64 0, .int .i64 0]
  rw [show (w.alloc (.cells #[.int .i64 a, .int .i64 b, .int .i64 c, .int .i64 d] 25)).heap.size = w.heap.size + 1 from by simp] at hxr
  replace h := Below.step h hA
  replace hx0 := hx0.kept hA
  clear hA
  obtain ⟨k0, k1, k2, k3⟩ := hx0.four
  go_enter Try.func31, Try.ntmps31
  go_wp2_with fail
  refine (isCubicI_yes a b c d _ g).mono ?_
  rintro e w1 ⟨rfl, hb⟩
  replace h := Below.step h hb
  replace hx0 := hx0.kept hb
  replace hxr := hxr.kept hb
  clear hb k0 k1 k2 k3
  obtain ⟨k0, k1, k2, k3⟩ := hx0.four
  go_wp2_with fail
  refine (key.out _).mono ?_
  rintro e w2 ⟨rfl, hb⟩
  replace h := Below.step h hb
  replace hx0 := hx0.kept hb
  replace hxr := hxr.kept hb
  clear hb k0 k1 k2 k3
  obtain ⟨k0, k1, k2, k3⟩ := hx0.four
  obtain ⟨r0, r1, r2, r3⟩ := hxr.four
  have f0 := hxr.free 0
  have f1 := hxr.free 1
  have f2 := hxr.free 2
  have f3 := hxr.free 3
  have lr := hxr.lt
  obtain ⟨s0, s1, s2, s3⟩ := ((((hxr.set 0 (.int .i64 d)).set 1 (.int .i64 c)).set 2 (.int .i64 b)).set 3 (.int .i64 a)).four
  go_wp2_with fail
  refine bodyPost_ret (v := .tuple #[.agg #[.int .i64 d, .int .i64 c, .int .i64 b, .int .i64 a], .bool true]) (by simp [results, Try.results31, go_sem, s0, s1, s2, s3]) (by rfl) ⟨by rfl, ?_⟩
  exact below_sets4 h (Nat.le_succ _) _ _ _ _

set_option maxHeartbeats 1000000 in
theorem revI_zero (a b c d : Int) (w : World) (g : CuG a b c d) (hg2 : ¬ CuG d c b a) : Calls Try.prog 31 #[.agg #[.int .i64 a, .int .i64 b, .int .i64 c, .int .i64 d]] w (GivesCB w 0 0 0 0 false) := by
  have key := fun (W : World) => validI_no d c b a W hg2
  replace key := Lib.hid key
  clear hg2
  have h := below_alloc1 w (.cells #[.int .i64 a, .int .i64 b, .int .i64 c, .int .i64 d] 25)
  have hx0 := Box.new w 25 #[.int .i64 a, .int .i64 b, .int .i64 c, .int .i64 d]
  have hA := below_alloc1 (w.alloc (.cells #[.int .i64 a, .int .i64 b, .int .i64 c, .int .i64 d] 25)) (.cells #[.int .i64 0, .int .i64 0, .int .i64 0, .int .i64 0] 25)
  have hxr := Box.new (w.alloc (.cells #[.int .i64 a, .int .i64 b, .int .i64 c, .int .i64 d] 25)) 25 #[.int .i64 0, .int .i64 0, .int .i64 0, .int .i64 0]
  rw [show (w.alloc (.cells #[.int .i64 a, .int .i64 b, .int .i64 c, .int .i64 d] 25)).heap.size = w.heap.size + 1 from by simp] at hxr
  replace h := Below.step h hA
  replace hx0 := hx0.kept hA
  clear hA
  obtain ⟨k0, k1, k2, k3⟩ := hx0.four
  go_enter Try.func31, Try.ntmps31
  go_wp2_with fail
  refine (isCubicI_yes a b c d _ g).mono ?_
  rintro e w1 ⟨rfl, hb⟩
  replace h := Below.step h hb
  replace hx0 := hx0.kept hb
  replace hxr := hxr.kept hb
  clear hb k0 k1 k2 k3
  obtain ⟨k0, k1, k2, k3⟩ := hx0.four
  go_wp2_with fail
  refine (key.out _).mono ?_
  rintro e w2 ⟨rfl, hb⟩
  replace h := Below.step h hb
  replace hx0 := hx0.kept hb
  replace hxr := hxr.kept hb
  clear hb k0 k1 k2 k3
  obtain ⟨k0, k1, k2, k3⟩ := hx0.four
  obtain ⟨r0, r1, r2, r3⟩ := hxr.four
  have f0 := hxr.free 0
  have f1 := hxr.free 1
  have f2 := hxr.free 2
  have f3 := hxr.free 3
  have lr := hxr.lt
  obtain ⟨s0, s1, s2, s3⟩ := ((((hxr.set 0 (.int .i64 0)).set 1 (.int .i64 0)).set 2 (.int .i64 0)).set 3 (.int .i64 0)).four
  go_wp2_with fail
  refine bodyPost_ret (v := .tuple #[.agg #[.int .i64 0, .int .i64 0, .int .i64 0, .int .i64 0], .bool false]) (by simp [results, Try.results31, go_sem, s0, s1, s2, s3]) (by rfl) ⟨by rfl, ?_⟩
  exact below_sets4 h (Nat.le_succ _) _ _ _ _

set_option maxHeartbeats 1000000 in
theorem revI_bad (a b c d : Int) (w : World) (g : ¬ CuG a b c d) : Calls Try.prog 31 #[.agg #[.int .i64 a, .int .i64 b, .int .i64 c, .int .i64 d]] w (GivesCB w 0 0 0 0 false) := by
  have h := below_alloc1 w (.cells #[.int .i64 a, .int .i64 b, .int .i64 c, .int .i64 d] 25)
  have hx0 := Box.new w 25 #[.int .i64 a, .int .i64 b, .int .i64 c, .int .i64 d]
  have hA := below_alloc1 (w.alloc (.cells #[.int .i64 a, .int .i64 b, .int .i64 c, .int .i64 d] 25)) (.cells #[.int .i64 0, .int .i64 0, .int .i64 0, .int .i64 0] 25)
  have hxr := Box.new (w.alloc (.cells #[.int .i64 a, .int .i64 b, .int .i64 c, .int .i64 d] 25)) 25 #[.int .i64 0, .int .i64 0, .int .i64 0, .int .i64 0]
  rw [show (w.alloc (.cells #[.int .i64 a, .int .i64 b, .int .i64 c, .int .i64 d] 25)).heap.size = w.heap.size + 1 from by simp] at hxr
  replace h := Below.step h hA
  replace hx0 := hx0.kept hA
  clear hA
  obtain ⟨k0, k1, k2, k3⟩ := hx0.four
  go_enter Try.func31, Try.ntmps31
  go_wp2_with fail
  refine (isCubicI_no a b c d _ g).mono ?_
  rintro e w1 ⟨rfl, hb⟩
  replace h := Below.step h hb
  replace hx0 := hx0.kept hb
  replace hxr := hxr.kept hb
  clear hb k0 k1 k2 k3
  obtain ⟨k0, k1, k2, k3⟩ := hx0.four
  obtain ⟨r0, r1, r2, r3⟩ := hxr.four
  have f0 := hxr.free 0
  have f1 := hxr.free 1
  have f2 := hxr.free 2
  have f3 := hxr.free 3
  have lr := hxr.lt
  obtain ⟨s0, s1, s2, s3⟩ := ((((hxr.set 0 (.int .i64 0)).set 1 (.int .i64 0)).set 2 (.int .i64 0)).set 3 (.int .i64 0)).four
  go_wp2_with fail
  refine bodyPost_ret (v := .tuple #[.agg #[.int .i64 0, .int .i64 0, .int .i64 0, .int .i64 0], .bool false]) (by simp [results, Try.results31, go_sem, s0, s1, s2, s3]) (by rfl) ⟨by rfl, ?_⟩
  exact below_sets4 h (Nat.le_succ _) _ _ _ _
end Go.Proofs.Ytjjdjhehdobmnaa
