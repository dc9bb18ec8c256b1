/- The model's IsPointOf; the program's isPlace, isInfinity, opposite (written by wip/gen/ptg.py). -/
import Derived.Test.YtokhadhfjbecmaaDoorPtS2
import Derived.Test.YtokhadhfjbecmaaDoorEcAbs
import Derived.Test.YtokhadhfjbecmaaDoorPtEq
import Derived.Deep.RegionHeld3
import Derived.Deep.DeepCutAuto
namespace Go.Proofs.YtokhadhfjbecmaaDoor
open Go.RowKit Go.Joins

set_option maxHeartbeats 1000000 in
theorem isPtS_yes (a b : Int) (p : P3) (w : World) (g : EcG a b) : Calls Tryd.prog 12 #[.agg #[.int .i64 a, .int .i64 b], .agg #[.int .i64 p.x, .int .i64 p.y, .int .i64 p.e]] w (GivesB w (decide (PtG a b p))) := by
  obtain ⟨ok, hk⟩ : ∃ ok, ok = decide (PtOn a b p) := ⟨_, rfl⟩
  have c1 := fun W => ptOnS_any a b p W g.1 g.2.1
  rw [← hk] at c1
  rw [show decide (PtG a b p) = ok from by rw [hk]; exact decide_eq_decide.2 ⟨fun h => h.2, fun h => ⟨g, h⟩⟩]
  replace c1 := Lib.hid c1
  clear hk
  have h := Below.refl w.heap.size w
  have hA := below_alloc1 w (.cells #[.int .i64 a, .int .i64 b] 28)
  have hxc := Box.new w 28 #[.int .i64 a, .int .i64 b]
  replace h := Below.step h hA
  clear hA
  have hA := below_alloc1 (w.alloc (.cells #[.int .i64 a, .int .i64 b] 28)) (.cells #[.int .i64 p.x, .int .i64 p.y, .int .i64 p.e] 30)
  have hxp := Box.new (w.alloc (.cells #[.int .i64 a, .int .i64 b] 28)) 30 #[.int .i64 p.x, .int .i64 p.y, .int .i64 p.e]
  rw [show (w.alloc (.cells #[.int .i64 a, .int .i64 b] 28)).heap.size = w.heap.size + 1 from by simp] at hxp
  replace h := Below.step h hA
  replace hxc := hxc.kept hA
  clear hA
  obtain ⟨kc0, kc1⟩ := hxc.two
  have lc := hxc.lt
  obtain ⟨kp0, kp1, kp2⟩ := hxp.three
  have lp := hxp.lt
  go_enter Tryd.func12, Tryd.ntmps12
  go_wp2_with fail
  refine (ecGood_yes a b _ g).mono ?_
  rintro e w1 ⟨rfl, hb⟩
  replace h := Below.step h hb
  replace hxc := hxc.kept hb
  replace hxp := hxp.kept hb
  clear hb kc0 kc1 lc kp0 kp1 kp2 lp
  obtain ⟨kc0, kc1⟩ := hxc.two
  have lc := hxc.lt
  obtain ⟨kp0, kp1, kp2⟩ := hxp.three
  have lp := hxp.lt
  go_wp2_with fail
  refine (c1.out _).mono ?_
  rintro e w2 ⟨rfl, hb⟩
  replace h := Below.step h hb
  replace hxc := hxc.kept hb
  replace hxp := hxp.kept hb
  clear hb kc0 kc1 lc kp0 kp1 kp2 lp
  obtain ⟨kc0, kc1⟩ := hxc.two
  have lc := hxc.lt
  obtain ⟨kp0, kp1, kp2⟩ := hxp.three
  have lp := hxp.lt
  go_wp2_with fail
  go_ret
  exact ⟨rfl, h⟩


set_option maxHeartbeats 1000000 in
theorem isPtS_no (a b : Int) (p : P3) (w : World) (g : ¬ EcG a b) : Calls Tryd.prog 12 #[.agg #[.int .i64 a, .int .i64 b], .agg #[.int .i64 p.x, .int .i64 p.y, .int .i64 p.e]] w (GivesB w (decide (PtG a b p))) := by
  rw [show decide (PtG a b p) = false from decide_eq_false fun h => g h.1]
  have h := Below.refl w.heap.size w
  have hA := below_alloc1 w (.cells #[.int .i64 a, .int .i64 b] 28)
  have hxc := Box.new w 28 #[.int .i64 a, .int .i64 b]
  replace h := Below.step h hA
  clear hA
  have hA := below_alloc1 (w.alloc (.cells #[.int .i64 a, .int .i64 b] 28)) (.cells #[.int .i64 p.x, .int .i64 p.y, .int .i64 p.e] 30)
  have hxp := Box.new (w.alloc (.cells #[.int .i64 a, .int .i64 b] 28)) 30 #[.int .i64 p.x, .int .i64 p.y, .int .i64 p.e]
  rw [show (w.alloc (.cells #[.int .i64 a, .int .i64 b] 28)).heap.size = w.heap.size + 1 from by simp] at hxp
  replace h := Below.step h hA
  replace hxc := hxc.kept hA
  clear hA
  obtain ⟨kc0, kc1⟩ := hxc.two
  have lc := hxc.lt
  obtain ⟨kp0, kp1, kp2⟩ := hxp.three
  have lp := hxp.lt
  go_enter Tryd.func12, Tryd.ntmps12
  go_wp2_with fail
  refine (ecGood_no a b _ g).mono ?_
  rintro e w1 ⟨rfl, hb⟩
  replace h := Below.step h hb
  replace hxc := hxc.kept hb
  replace hxp := hxp.kept hb
  clear hb kc0 kc1 lc kp0 kp1 kp2 lp
  obtain ⟨kc0, kc1⟩ := hxc.two
  have lc := hxc.lt
  obtain ⟨kp0, kp1, kp2⟩ := hxp.three
  have lp := hxp.lt
  go_wp2_with fail
  go_ret
  exact ⟨rfl, h⟩


theorem isPtS_any (a b : Int) (p : P3) (w : World) : Calls Tryd.prog 12 #[.agg #[.int .i64 a, .int .i64 b], .agg #[.int .i64 p.x, .int .i64 p.y, .int .i64 p.e]] w (GivesB w (decide (PtG a b p))) := by
  by_cases g : EcG a b
  · exact isPtS_yes a b p w g
  · exact isPtS_no a b p w g
theorem isPtS_on (a b : Int) (p : P3) (w : World) (g : PtG a b p) : Calls Tryd.prog 12 #[.agg #[.int .i64 a, .int .i64 b], .agg #[.int .i64 p.x, .int .i64 p.y, .int .i64 p.e]] w (GivesB w true) := by
  have := isPtS_any a b p w; rwa [decide_eq_true g] at this
theorem isPtS_off (a b : Int) (p : P3) (w : World) (g : ¬ PtG a b p) : Calls Tryd.prog 12 #[.agg #[.int .i64 a, .int .i64 b], .agg #[.int .i64 p.x, .int .i64 p.y, .int .i64 p.e]] w (GivesB w false) := by
  have := isPtS_any a b p w; rwa [decide_eq_false g] at this

set_option maxHeartbeats 1000000 in
theorem place_x1 (x e : Int) (w : World) (g : x < -10000) : Calls Tryd.prog 26 #[.int .i64 x, .int .i64 e] w (GivesB w false) := by
  have h := Below.refl w.heap.size w
  go_enter Tryd.func26, Tryd.ntmps26
  go_wp2_with fail
  go_ret
  exact ⟨rfl, h⟩


set_option maxHeartbeats 1000000 in
theorem place_x2 (x e : Int) (w : World) (h1 : -10000 ≤ x) (g : 10000 < x) : Calls Tryd.prog 26 #[.int .i64 x, .int .i64 e] w (GivesB w false) := by
  have h := Below.refl w.heap.size w
  go_enter Tryd.func26, Tryd.ntmps26
  go_wp2_with fail
  go_ret
  exact ⟨rfl, h⟩


set_option maxHeartbeats 1000000 in
theorem place_e1 (x e : Int) (w : World) (h1 : -10000 ≤ x) (h2 : x ≤ 10000) (g : e < 1) : Calls Tryd.prog 26 #[.int .i64 x, .int .i64 e] w (GivesB w false) := by
  have h := Below.refl w.heap.size w
  go_enter Tryd.func26, Tryd.ntmps26
  go_wp2_with fail
  go_ret
  exact ⟨rfl, h⟩


set_option maxHeartbeats 1000000 in
theorem place_e2 (x e : Int) (w : World) (h1 : -10000 ≤ x) (h2 : x ≤ 10000) (h3 : 1 ≤ e) (g : 20 < e) : Calls Tryd.prog 26 #[.int .i64 x, .int .i64 e] w (GivesB w false) := by
  have h := Below.refl w.heap.size w
  go_enter Tryd.func26, Tryd.ntmps26
  go_wp2_with fail
  go_ret
  exact ⟨rfl, h⟩


set_option maxHeartbeats 1000000 in
theorem place_ok (x e : Int) (w : World) (h1 : -10000 ≤ x) (h2 : x ≤ 10000) (h3 : 1 ≤ e) (h4 : e ≤ 20) (G : Nat) (hG : Nat.gcd x.natAbs e.natAbs = G) (ok : Bool) (hok : ok = decide (G = 1)) : Calls Tryd.prog 26 #[.int .i64 x, .int .i64 e] w (GivesB w ok) := by
  have c2 := fun W => gcdI_any x e W (by omega) (by omega) G hG
  replace c2 := Lib.hid c2
  clear hG
  have e4 : (((G : Nat) : Int) == 1) = ok := by rw [hok, Bool.eq_iff_iff, beq_iff_eq, decide_eq_true_eq]; omega
  replace e4 := Lib.hid e4
  clear hok
  have h := Below.refl w.heap.size w
  go_enter Tryd.func26, Tryd.ntmps26
  go_wp2_with fail
  refine (c2.out _).mono ?_
  rintro e w1 ⟨rfl, hb⟩
  replace h := Below.step h hb
  clear hb
  go_wp2_with fail
  rw [e4.out]
  go_ret
  exact ⟨rfl, h⟩


/-- X and E that a point may have. -/
def Plc (x e : Int) : Prop := (-10000 ≤ x ∧ x ≤ 10000) ∧ (1 ≤ e ∧ e ≤ 20) ∧ Nat.gcd x.natAbs e.natAbs = 1
instance (x e : Int) : Decidable (Plc x e) := by unfold Plc; infer_instance
theorem place_any (x e : Int) (w : World) : Calls Tryd.prog 26 #[.int .i64 x, .int .i64 e] w (GivesB w (decide (Plc x e))) := by
  by_cases h1 : -10000 ≤ x
  · by_cases h2 : x ≤ 10000
    · by_cases h3 : 1 ≤ e
      · by_cases h4 : e ≤ 20
        · exact place_ok x e w h1 h2 h3 h4 _ rfl _ (decide_eq_decide.2 ⟨fun h => h.2.2, fun h => ⟨⟨h1, h2⟩, ⟨h3, h4⟩, h⟩⟩)
        · rw [decide_eq_false fun h => h4 h.2.1.2]; exact place_e2 x e w h1 h2 h3 (by omega)
      · rw [decide_eq_false fun h => h3 h.2.1.1]; exact place_e1 x e w h1 h2 (by omega)
    · rw [decide_eq_false fun h => h2 h.1.2]; exact place_x2 x e w h1 (by omega)
  · rw [decide_eq_false fun h => h1 h.1.1]; exact place_x1 x e w (by omega)

set_option maxHeartbeats 1000000 in
theorem isInf_any (p : P3) (w : World) : Calls Tryd.prog 15 #[.agg #[.int .i64 p.x, .int .i64 p.y, .int .i64 p.e]] w (GivesB w (p.x == 0 && p.y == 0 && p.e == 0)) := by
  have h := Below.refl w.heap.size w
  have hA := below_alloc1 w (.cells #[.int .i64 p.x, .int .i64 p.y, .int .i64 p.e] 30)
  have hxp := Box.new w 30 #[.int .i64 p.x, .int .i64 p.y, .int .i64 p.e]
  replace h := Below.step h hA
  clear hA
  obtain ⟨kp0, kp1, kp2⟩ := hxp.three
  have lp := hxp.lt
  go_enter Tryd.func15, Tryd.ntmps15
  go_wp2_with fail
  go_ret
  exact ⟨rfl, h⟩


theorem isInf_yes (w : World) : Calls Tryd.prog 15 #[.agg #[.int .i64 (P3.zero).x, .int .i64 (P3.zero).y, .int .i64 (P3.zero).e]] w (GivesB w true) := isInf_any .zero w
theorem isInf_no (p : P3) (w : World) (h : p ≠ .zero) : Calls Tryd.prog 15 #[.agg #[.int .i64 p.x, .int .i64 p.y, .int .i64 p.e]] w (GivesB w false) := by
  have := isInf_any p w
  rwa [show (p.x == 0 && p.y == 0 && p.e == 0) = false from by
    rw [Bool.eq_false_iff]; intro k
    simp only [Bool.and_eq_true, beq_iff_eq] at k
    obtain ⟨⟨k1, k2⟩, k3⟩ := k
    cases p; simp only at k1 k2 k3; subst k1 k2 k3; exact h rfl] at this

set_option maxHeartbeats 1000000 in
theorem oppI_any (p : P3) (w : World) (hy : -9223372036854775807 ≤ p.y ∧ p.y ≤ 9223372036854775807) : Calls Tryd.prog 41 #[.agg #[.int .i64 p.x, .int .i64 p.y, .int .i64 p.e]] w (GivesP w p.x (-p.y) p.e) := by
  have ey : IntKind.i64.wrap (-p.y) = -p.y := IntWalk.i64_in _ (by omega)
  go_enter Tryd.func41, Tryd.ntmps41
  go_wp2_with fail
  refine bodyPost_ret (v := .agg #[.int .i64 p.x, .int .i64 (-p.y), .int .i64 p.e]) (by simp [results, Tryd.results41, go_sem]) (by rfl) ⟨by rfl, ?_⟩
  exact Below.step (below_alloc1 _ _) (below_alloc1 _ _)


end Go.Proofs.YtokhadhfjbecmaaDoor
