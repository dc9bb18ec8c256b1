/- cuGood, IsCubic, cuValue of the model (own work). -/
import Derived.Test.YtanmkamagdajpaaDoorCuIn
import Derived.Test.YtanmkamagdajpaaDoorFrMath
namespace Go.Proofs.YtanmkamagdajpaaDoor
open Go.RowKit Go.Joins

set_option maxHeartbeats 1000000 in
theorem cuGood_zero (b c d : Int) (w : World) : Calls Tryd.prog 25 #[.agg #[.int .i64 0, .int .i64 b, .int .i64 c, .int .i64 d]] w (GivesB w false) := by
  have h := below_alloc1 w (.cells #[.int .i64 0, .int .i64 b, .int .i64 c, .int .i64 d] 24)
  have hx := Box.new w 24 #[.int .i64 0, .int .i64 b, .int .i64 c, .int .i64 d]
  obtain ⟨k0, k1, k2, k3⟩ := hx.four
  go_enter Tryd.func25, Tryd.ntmps25
  go_wp2_with fail
  go_ret
  exact ⟨rfl, h⟩

set_option maxHeartbeats 1000000 in
theorem cuGood_list (a b c d : Int) (w : World) (ha : a ≠ 0) (ok : Bool) (hok : ok = decide ((-1000 ≤ a ∧ a ≤ 1000) ∧ (-1000 ≤ b ∧ b ≤ 1000) ∧ (-1000 ≤ c ∧ c ≤ 1000) ∧ (-1000 ≤ d ∧ d ≤ 1000))) :
    Calls Tryd.prog 25 #[.agg #[.int .i64 a, .int .i64 b, .int .i64 c, .int .i64 d]] w (GivesB w ok) := by
  have h := below_alloc1 w (.cells #[.int .i64 a, .int .i64 b, .int .i64 c, .int .i64 d] 24)
  have hx := Box.new w 24 #[.int .i64 a, .int .i64 b, .int .i64 c, .int .i64 d]
  obtain ⟨k0, k1, k2, k3⟩ := hx.four
  have hl := Box.new (w.alloc (.cells #[.int .i64 a, .int .i64 b, .int .i64 c, .int .i64 d] 24)) 3 #[.int .i64 a, .int .i64 b, .int .i64 c, .int .i64 d]
  have h2 := Below.step h (below_alloc1 (w.alloc (.cells #[.int .i64 a, .int .i64 b, .int .i64 c, .int .i64 d] 24)) (.cells #[.int .i64 a, .int .i64 b, .int .i64 c, .int .i64 d] 3))
  rw [show (w.alloc (.cells #[.int .i64 a, .int .i64 b, .int .i64 c, .int .i64 d] 24)).heap.size = w.heap.size + 1 from by simp] at hl
  have key := l1All_four _ 4 a b c d (-1000) 1000 _ hl ok hok
  replace key := Lib.hid key
  have e1 : (a != 0) = true := by simp [ha]
  have e2 : (a == 0) = false := by simp [ha]
  clear hok hl
  go_enter Tryd.func25, Tryd.ntmps25
  go_wp2_with fail
  (with_reducible refine key.out.mono ?_)
  rintro e w1 ⟨rfl, rfl⟩
  go_wp2_with fail
  go_ret
  exact ⟨rfl, h2⟩

theorem cuGood_any (a b c d : Int) (w : World) : Calls Tryd.prog 25 #[.agg #[.int .i64 a, .int .i64 b, .int .i64 c, .int .i64 d]] w (GivesB w (decide (CuG a b c d))) := by
  by_cases ha : a = 0
  · subst ha
    rw [show decide (CuG 0 b c d) = false from decide_eq_false fun h => h.1 rfl]
    exact cuGood_zero b c d w
  · exact cuGood_list a b c d w ha _ (by unfold CuG; simp [ha])
theorem cuGood_yes (a b c d : Int) (w : World) (g : CuG a b c d) : Calls Tryd.prog 25 #[.agg #[.int .i64 a, .int .i64 b, .int .i64 c, .int .i64 d]] w (GivesB w true) := by
  have := cuGood_any a b c d w
  rwa [decide_eq_true g] at this
theorem cuGood_no (a b c d : Int) (w : World) (g : ¬ CuG a b c d) : Calls Tryd.prog 25 #[.agg #[.int .i64 a, .int .i64 b, .int .i64 c, .int .i64 d]] w (GivesB w false) := by
  have := cuGood_any a b c d w
  rwa [decide_eq_false g] at this

/-- The value at n / m, times m^3. -/
def cuVal (a b c d n m : Int) : Int := ((a * n + b * m) * n + c * m * m) * n + d * m * m * m

theorem cuVal_bd {a b c d n m : Int} (ha : -1000 ≤ a ∧ a ≤ 1000) (hb : -1000 ≤ b ∧ b ≤ 1000) (hc : -1000 ≤ c ∧ c ≤ 1000) (hd : -1000 ≤ d ∧ d ≤ 1000) (hn : -10000 ≤ n ∧ n ≤ 10000) (hm : -1000 ≤ m ∧ m ≤ 1000) :
    (-10000000 ≤ a * n ∧ a * n ≤ 10000000) ∧ (-1000000 ≤ b * m ∧ b * m ≤ 1000000) ∧ (-110000000000 ≤ (a * n + b * m) * n ∧ (a * n + b * m) * n ≤ 110000000000) ∧ (-1000000 ≤ c * m ∧ c * m ≤ 1000000) ∧ (-1000000000 ≤ c * m * m ∧ c * m * m ≤ 1000000000) ∧
    (-1110000000000000 ≤ ((a * n + b * m) * n + c * m * m) * n ∧ ((a * n + b * m) * n + c * m * m) * n ≤ 1110000000000000) ∧ (-1000000 ≤ d * m ∧ d * m ≤ 1000000) ∧ (-1000000000 ≤ d * m * m ∧ d * m * m ≤ 1000000000) ∧ (-1000000000000 ≤ d * m * m * m ∧ d * m * m * m ≤ 1000000000000) := by
  have k1 := fr_mul_bd ha.1 ha.2 hn.1 hn.2
  have k2 := fr_mul_bd hb.1 hb.2 hm.1 hm.2
  have k3 := fr_mul_bd (a := a * n + b * m) (M := 11000000) (by omega) (by omega) hn.1 hn.2
  have k4 := fr_mul_bd hc.1 hc.2 hm.1 hm.2
  have k5 := fr_mul_bd (a := c * m) (M := 1000000) (by omega) (by omega) hm.1 hm.2
  have k6 := fr_mul_bd (a := (a * n + b * m) * n + c * m * m) (M := 111000000000) (by omega) (by omega) hn.1 hn.2
  have k7 := fr_mul_bd hd.1 hd.2 hm.1 hm.2
  have k8 := fr_mul_bd (a := d * m) (M := 1000000) (by omega) (by omega) hm.1 hm.2
  have k9 := fr_mul_bd (a := d * m * m) (M := 1000000000) (by omega) (by omega) hm.1 hm.2
  refine ⟨by omega, by omega, by omega, by omega, by omega, by omega, by omega, by omega, by omega⟩

set_option maxHeartbeats 1000000 in
theorem cuValue_any (a b c d n m : Int) (w : World) (ha : -1000 ≤ a ∧ a ≤ 1000) (hb : -1000 ≤ b ∧ b ≤ 1000) (hc : -1000 ≤ c ∧ c ≤ 1000) (hd : -1000 ≤ d ∧ d ≤ 1000) (hn : -10000 ≤ n ∧ n ≤ 10000) (hm : -1000 ≤ m ∧ m ≤ 1000) (V : Int) (hV : cuVal a b c d n m = V) :
    Calls Tryd.prog 27 #[.agg #[.int .i64 a, .int .i64 b, .int .i64 c, .int .i64 d], .int .i64 n, .int .i64 m] w (GivesI w V) := by
  have h := below_alloc1 w (.cells #[.int .i64 a, .int .i64 b, .int .i64 c, .int .i64 d] 24)
  have hx := Box.new w 24 #[.int .i64 a, .int .i64 b, .int .i64 c, .int .i64 d]
  obtain ⟨k0, k1, k2, k3⟩ := hx.four
  obtain ⟨⟨a1, a2⟩, ⟨b1, b2⟩, ⟨c1, c2⟩, ⟨d1, d2⟩, ⟨e1, e2⟩, ⟨f1, f2⟩, ⟨g1, g2⟩, ⟨i1, i2⟩, ⟨j1, j2⟩⟩ := cuVal_bd ha hb hc hd hn hm
  replace hV := Lib.hid hV
  clear ha hb hc hd hn hm
  go_enter Tryd.func27, Tryd.ntmps27
  go_wp2_with fail
  go_ret
  exact ⟨congrArg (fun z => Ending.returned (.int .i64 z)) hV.out, h⟩
end Go.Proofs.YtanmkamagdajpaaDoor
