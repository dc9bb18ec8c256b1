/- The model's ptSlope (written by wip/gen/pta.py). -/
import Derived.Test.YtabcnkobojkdhaaDoorPtSum
import Derived.Test.YtabcnkobojkdhaaDoorPtRoot
import Derived.Test.YtabcnkobojkdhaaDoorEcLow
import Derived.Test.YtabcnkobojkdhaaDoorPtG
import Derived.Deep.RegionHeld3
import Derived.Deep.DeepCutAuto
import Derived.BigQuiet
namespace Go.Proofs.YtabcnkobojkdhaaDoor
open Go.RowKit Go.Joins

theorem sl_bd {a : Int} {p q : P3} (_ha : -1000 ≤ a ∧ a ≤ 1000) (gp : (-10000 ≤ p.x ∧ p.x ≤ 10000) ∧ (0 ≤ p.e ∧ p.e ≤ 20) ∧ (-1800000 ≤ p.y ∧ p.y ≤ 1800000)) (gq : (-10000 ≤ q.x ∧ q.x ≤ 10000) ∧ (0 ≤ q.e ∧ q.e ≤ 20) ∧ (-1800000 ≤ q.y ∧ q.y ≤ 1800000)) :
    (-36000000 ≤ q.y * p.e ∧ q.y * p.e ≤ 36000000) ∧ (-720000000 ≤ q.y * p.e * p.e ∧ q.y * p.e * p.e ≤ 720000000) ∧ (-14400000000 ≤ q.y * p.e * p.e * p.e ∧ q.y * p.e * p.e * p.e ≤ 14400000000) ∧
    (0 ≤ p.e * q.e ∧ p.e * q.e ≤ 400) ∧ (-200000 ≤ q.x * p.e ∧ q.x * p.e ≤ 200000) ∧ (-4000000 ≤ q.x * p.e * p.e ∧ q.x * p.e * p.e ≤ 4000000) := by
  have p1 : -20 ≤ p.e := by omega
  have q1 : -20 ≤ q.e := by omega
  have k1 := fr_mul_bd gq.2.2.1 gq.2.2.2 p1 gp.2.1.2
  have k2 := fr_mul_bd (a := q.y * p.e) (b := p.e) (M := 36000000) (N := 20) (by omega) (by omega) p1 gp.2.1.2
  have k3 := fr_mul_bd (a := q.y * p.e * p.e) (b := p.e) (M := 720000000) (N := 20) (by omega) (by omega) p1 gp.2.1.2
  have k4 := mul_bd0 gp.2.1.1 gp.2.1.2 gq.2.1.1 gq.2.1.2
  have k5 := fr_mul_bd gq.1.1 gq.1.2 p1 gp.2.1.2
  have k6 := fr_mul_bd (a := q.x * p.e) (b := p.e) (M := 200000) (N := 20) (by omega) (by omega) p1 gp.2.1.2
  omega
theorem far_bd {p q : P3} (gp : (-10000 ≤ p.x ∧ p.x ≤ 10000) ∧ (0 ≤ p.e ∧ p.e ≤ 20) ∧ (-1800000 ≤ p.y ∧ p.y ≤ 1800000)) (gq : (-10000 ≤ q.x ∧ q.x ≤ 10000) ∧ (0 ≤ q.e ∧ q.e ≤ 20) ∧ (-1800000 ≤ q.y ∧ q.y ≤ 1800000)) :
    -3200000000 ≤ p.e * q.e * (q.x * p.e * p.e - p.x * q.e * q.e) ∧ p.e * q.e * (q.x * p.e * p.e - p.x * q.e * q.e) ≤ 3200000000 := by
  have k1 := sl_bd (a := 0) (by omega) gp gq
  have k2 := sl_bd (a := 0) (by omega) gq gp
  have k3 := fr_mul_bd (a := p.e * q.e) (b := q.x * p.e * p.e - p.x * q.e * q.e) (M := 400) (N := 8000000) (by omega) (by omega) (by omega) (by omega)
  omega
theorem tan_bd {a : Int} {p : P3} (ha : -1000 ≤ a ∧ a ≤ 1000) (gp : (-10000 ≤ p.x ∧ p.x ≤ 10000) ∧ (0 ≤ p.e ∧ p.e ≤ 20) ∧ (-1800000 ≤ p.y ∧ p.y ≤ 1800000)) :
    (-300000000 ≤ 3 * p.x * p.x ∧ 3 * p.x * p.x ≤ 300000000) ∧ (-20000 ≤ a * p.e ∧ a * p.e ≤ 20000) ∧ (-400000 ≤ a * p.e * p.e ∧ a * p.e * p.e ≤ 400000) ∧ (-8000000 ≤ a * p.e * p.e * p.e ∧ a * p.e * p.e * p.e ≤ 8000000) ∧ (-160000000 ≤ a * p.e * p.e * p.e * p.e ∧ a * p.e * p.e * p.e * p.e ≤ 160000000) ∧ (-72000000 ≤ 2 * p.y * p.e ∧ 2 * p.y * p.e ≤ 72000000) := by
  have p1 : -20 ≤ p.e := by omega
  have k1 := fr_mul_bd (a := 3 * p.x) (b := p.x) (M := 30000) (N := 10000) (by omega) (by omega) gp.1.1 gp.1.2
  have k2 := fr_mul_bd ha.1 ha.2 p1 gp.2.1.2
  have k3 := fr_mul_bd (a := a * p.e) (b := p.e) (M := 20000) (N := 20) (by omega) (by omega) p1 gp.2.1.2
  have k4 := fr_mul_bd (a := a * p.e * p.e) (b := p.e) (M := 400000) (N := 20) (by omega) (by omega) p1 gp.2.1.2
  have k5 := fr_mul_bd (a := a * p.e * p.e * p.e) (b := p.e) (M := 8000000) (N := 20) (by omega) (by omega) p1 gp.2.1.2
  have k6 := fr_mul_bd (a := 2 * p.y) (b := p.e) (M := 3600000) (N := 20) (by omega) (by omega) p1 gp.2.1.2
  omega
theorem slU_bd {a : Int} {p q : P3} (ha : -1000 ≤ a ∧ a ≤ 1000) (gp : (-10000 ≤ p.x ∧ p.x ≤ 10000) ∧ (0 ≤ p.e ∧ p.e ≤ 20) ∧ (-1800000 ≤ p.y ∧ p.y ≤ 1800000)) (gq : (-10000 ≤ q.x ∧ q.x ≤ 10000) ∧ (0 ≤ q.e ∧ q.e ≤ 20) ∧ (-1800000 ≤ q.y ∧ q.y ≤ 1800000)) : (-30000000000 ≤ slU a p q ∧ slU a p q ≤ 30000000000) ∧ (-30000000000 ≤ slF p q ∧ slF p q ≤ 30000000000) := by
  have k1 := sl_bd ha gp gq
  have k2 := sl_bd ha gq gp
  have k3 := far_bd gp gq
  have k4 := tan_bd ha gp
  unfold slU slF
  split <;> omega
theorem frRoot_int (n : Int) (w : World) (h0 : 0 ≤ n) (h1 : n ≤ 4000000000000000000) : Calls Tryd.prog 49 #[.int .i64 n] w fun e w' => e = .returned (.int .i64 (iroot n)) ∧ w = w' := by
  have := frRoot_any n.toNat w (by omega) _ (rootOf_spec n.toNat)
  rw [show ((n.toNat : Nat) : Int) = n from by omega] at this
  exact this
def GivesO (w : World) (r : Option P3) (e : Ending) (w' : World) : Prop := GivesPB w (r.getD .zero).x (r.getD .zero).y (r.getD .zero).e r.isSome e w'
theorem neq_false {p q : P3} (h : ¬ p = q) : (p.x == q.x && p.y == q.y && p.e == q.e) = false := by
  rw [Bool.eq_false_iff]; intro k
  simp only [Bool.and_eq_true, beq_iff_eq] at k
  cases p; cases q; simp only at k; exact h (by rw [k.1.1, k.1.2, k.2])

set_option maxHeartbeats 1000000 in
theorem ptSlope_d (a b : Int) (p q : P3) (w : World) (ha : -1000 ≤ a ∧ a ≤ 1000) (gp : (-10000 ≤ p.x ∧ p.x ≤ 10000) ∧ (0 ≤ p.e ∧ p.e ≤ 20) ∧ (-1800000 ≤ p.y ∧ p.y ≤ 1800000)) (gq : (-10000 ≤ q.x ∧ q.x ≤ 10000) ∧ (0 ≤ q.e ∧ q.e ≤ 20) ∧ (-1800000 ≤ q.y ∧ q.y ≤ 1800000)) (h : ¬ p = q) (hF : p.e * q.e * (q.x * p.e * p.e - p.x * q.e * q.e) ≠ 0) (N D : Int) (c1 : ∀ W : World, Calls Tryd.prog 48 #[.int .i64 (q.y * p.e * p.e * p.e - p.y * q.e * q.e * q.e), .int .i64 (p.e * q.e * (q.x * p.e * p.e - p.x * q.e * q.e))] W (GivesII W N D)) : Calls Tryd.prog 41 #[.agg #[.int .i64 a, .int .i64 b], .agg #[.int .i64 p.x, .int .i64 p.y, .int .i64 p.e], .agg #[.int .i64 q.x, .int .i64 q.y, .int .i64 q.e]] w (GivesII w N D) := by
  have k1 := sl_bd ha gp gq
  have k2 := sl_bd ha gq gp
  have k3 := far_bd gp gq
  have e1 : (p.e * q.e * (q.x * p.e * p.e - p.x * q.e * q.e) == 0) = false := by simpa using hF
  have e0 := neq_false h
  clear h
  replace c1 := Lib.hid c1
  clear hF
  obtain ⟨⟨x1, x2⟩, ⟨x3, x4⟩, ⟨x5, x6⟩⟩ := gp
  obtain ⟨⟨y1, y2⟩, ⟨y3, y4⟩, ⟨y5, y6⟩⟩ := gq
  have h := Below.refl w.heap.size w
  have hA := below_alloc1 w (.cells #[.int .i64 a, .int .i64 b] 29)
  have hxc := Box.new w 29 #[.int .i64 a, .int .i64 b]
  replace h := Below.step h hA
  clear hA
  have hA := below_alloc1 (w.alloc (.cells #[.int .i64 a, .int .i64 b] 29)) (.cells #[.int .i64 p.x, .int .i64 p.y, .int .i64 p.e] 26)
  have hxp := Box.new (w.alloc (.cells #[.int .i64 a, .int .i64 b] 29)) 26 #[.int .i64 p.x, .int .i64 p.y, .int .i64 p.e]
  rw [show (w.alloc (.cells #[.int .i64 a, .int .i64 b] 29)).heap.size = w.heap.size + 1 from by simp] at hxp
  replace h := Below.step h hA
  replace hxc := hxc.kept hA
  clear hA
  have hA := below_alloc1 ((w.alloc (.cells #[.int .i64 a, .int .i64 b] 29)).alloc (.cells #[.int .i64 p.x, .int .i64 p.y, .int .i64 p.e] 26)) (.cells #[.int .i64 q.x, .int .i64 q.y, .int .i64 q.e] 26)
  have hxq := Box.new ((w.alloc (.cells #[.int .i64 a, .int .i64 b] 29)).alloc (.cells #[.int .i64 p.x, .int .i64 p.y, .int .i64 p.e] 26)) 26 #[.int .i64 q.x, .int .i64 q.y, .int .i64 q.e]
  rw [show ((w.alloc (.cells #[.int .i64 a, .int .i64 b] 29)).alloc (.cells #[.int .i64 p.x, .int .i64 p.y, .int .i64 p.e] 26)).heap.size = w.heap.size + 2 from by simp] at hxq
  replace h := Below.step h hA
  replace hxc := hxc.kept hA
  replace hxp := hxp.kept hA
  clear hA
  obtain ⟨kc0, kc1⟩ := hxc.two
  have lc := hxc.lt
  obtain ⟨kp0, kp1, kp2⟩ := hxp.three
  have lp := hxp.lt
  obtain ⟨kq0, kq1, kq2⟩ := hxq.three
  have lq := hxq.lt
  go_enter Tryd.func41, Tryd.ntmps41
  go_wp2_with fail
  refine (c1.out _).mono ?_
  rintro e w1 ⟨rfl, hb⟩
  replace h := Below.step h hb
  replace hxc := hxc.kept hb
  replace hxp := hxp.kept hb
  replace hxq := hxq.kept hb
  clear hb kc0 kc1 lc kp0 kp1 kp2 lp kq0 kq1 kq2 lq
  obtain ⟨kc0, kc1⟩ := hxc.two
  have lc := hxc.lt
  obtain ⟨kp0, kp1, kp2⟩ := hxp.three
  have lp := hxp.lt
  obtain ⟨kq0, kq1, kq2⟩ := hxq.three
  have lq := hxq.lt
  go_wp2_with fail
  go_ret2
  exact ⟨rfl, h⟩


set_option maxHeartbeats 1000000 in
theorem ptSlope_dz (a b : Int) (p q : P3) (w : World) (ha : -1000 ≤ a ∧ a ≤ 1000) (gp : (-10000 ≤ p.x ∧ p.x ≤ 10000) ∧ (0 ≤ p.e ∧ p.e ≤ 20) ∧ (-1800000 ≤ p.y ∧ p.y ≤ 1800000)) (gq : (-10000 ≤ q.x ∧ q.x ≤ 10000) ∧ (0 ≤ q.e ∧ q.e ≤ 20) ∧ (-1800000 ≤ q.y ∧ q.y ≤ 1800000)) (h : ¬ p = q) (hF : p.e * q.e * (q.x * p.e * p.e - p.x * q.e * q.e) = 0) : Calls Tryd.prog 41 #[.agg #[.int .i64 a, .int .i64 b], .agg #[.int .i64 p.x, .int .i64 p.y, .int .i64 p.e], .agg #[.int .i64 q.x, .int .i64 q.y, .int .i64 q.e]] w (GivesII w 1 0) := by
  have k1 := sl_bd ha gp gq
  have k2 := sl_bd ha gq gp
  have k3 := far_bd gp gq
  have e1 : (p.e * q.e * (q.x * p.e * p.e - p.x * q.e * q.e) == 0) = true := by rw [hF]; rfl
  have e0 := neq_false h
  clear h
  clear hF
  obtain ⟨⟨x1, x2⟩, ⟨x3, x4⟩, ⟨x5, x6⟩⟩ := gp
  obtain ⟨⟨y1, y2⟩, ⟨y3, y4⟩, ⟨y5, y6⟩⟩ := gq
  have h := Below.refl w.heap.size w
  have hA := below_alloc1 w (.cells #[.int .i64 a, .int .i64 b] 29)
  have hxc := Box.new w 29 #[.int .i64 a, .int .i64 b]
  replace h := Below.step h hA
  clear hA
  have hA := below_alloc1 (w.alloc (.cells #[.int .i64 a, .int .i64 b] 29)) (.cells #[.int .i64 p.x, .int .i64 p.y, .int .i64 p.e] 26)
  have hxp := Box.new (w.alloc (.cells #[.int .i64 a, .int .i64 b] 29)) 26 #[.int .i64 p.x, .int .i64 p.y, .int .i64 p.e]
  rw [show (w.alloc (.cells #[.int .i64 a, .int .i64 b] 29)).heap.size = w.heap.size + 1 from by simp] at hxp
  replace h := Below.step h hA
  replace hxc := hxc.kept hA
  clear hA
  have hA := below_alloc1 ((w.alloc (.cells #[.int .i64 a, .int .i64 b] 29)).alloc (.cells #[.int .i64 p.x, .int .i64 p.y, .int .i64 p.e] 26)) (.cells #[.int .i64 q.x, .int .i64 q.y, .int .i64 q.e] 26)
  have hxq := Box.new ((w.alloc (.cells #[.int .i64 a, .int .i64 b] 29)).alloc (.cells #[.int .i64 p.x, .int .i64 p.y, .int .i64 p.e] 26)) 26 #[.int .i64 q.x, .int .i64 q.y, .int .i64 q.e]
  rw [show ((w.alloc (.cells #[.int .i64 a, .int .i64 b] 29)).alloc (.cells #[.int .i64 p.x, .int .i64 p.y, .int .i64 p.e] 26)).heap.size = w.heap.size + 2 from by simp] at hxq
  replace h := Below.step h hA
  replace hxc := hxc.kept hA
  replace hxp := hxp.kept hA
  clear hA
  obtain ⟨kc0, kc1⟩ := hxc.two
  have lc := hxc.lt
  obtain ⟨kp0, kp1, kp2⟩ := hxp.three
  have lp := hxp.lt
  obtain ⟨kq0, kq1, kq2⟩ := hxq.three
  have lq := hxq.lt
  go_enter Tryd.func41, Tryd.ntmps41
  go_wp2_with fail
  go_ret2
  exact ⟨rfl, h⟩


set_option maxHeartbeats 1000000 in
theorem ptSlope_t (a b : Int) (p : P3) (w : World) (ha : -1000 ≤ a ∧ a ≤ 1000) (gp : (-10000 ≤ p.x ∧ p.x ≤ 10000) ∧ (0 ≤ p.e ∧ p.e ≤ 20) ∧ (-1800000 ≤ p.y ∧ p.y ≤ 1800000)) (hF : 2 * p.y * p.e ≠ 0) (N D : Int) (c1 : ∀ W : World, Calls Tryd.prog 48 #[.int .i64 (3 * p.x * p.x + a * p.e * p.e * p.e * p.e), .int .i64 (2 * p.y * p.e)] W (GivesII W N D)) : Calls Tryd.prog 41 #[.agg #[.int .i64 a, .int .i64 b], .agg #[.int .i64 p.x, .int .i64 p.y, .int .i64 p.e], .agg #[.int .i64 p.x, .int .i64 p.y, .int .i64 p.e]] w (GivesII w N D) := by
  have k1 := sl_bd ha gp gp
  have k2 := sl_bd ha gp gp
  have k3 := far_bd gp gp
  have k4 := tan_bd ha gp
  have e1 : (2 * p.y * p.e == 0) = false := by simpa using hF
  replace c1 := Lib.hid c1
  clear hF
  obtain ⟨⟨x1, x2⟩, ⟨x3, x4⟩, ⟨x5, x6⟩⟩ := gp
  have h := Below.refl w.heap.size w
  have hA := below_alloc1 w (.cells #[.int .i64 a, .int .i64 b] 29)
  have hxc := Box.new w 29 #[.int .i64 a, .int .i64 b]
  replace h := Below.step h hA
  clear hA
  have hA := below_alloc1 (w.alloc (.cells #[.int .i64 a, .int .i64 b] 29)) (.cells #[.int .i64 p.x, .int .i64 p.y, .int .i64 p.e] 26)
  have hxp := Box.new (w.alloc (.cells #[.int .i64 a, .int .i64 b] 29)) 26 #[.int .i64 p.x, .int .i64 p.y, .int .i64 p.e]
  rw [show (w.alloc (.cells #[.int .i64 a, .int .i64 b] 29)).heap.size = w.heap.size + 1 from by simp] at hxp
  replace h := Below.step h hA
  replace hxc := hxc.kept hA
  clear hA
  have hA := below_alloc1 ((w.alloc (.cells #[.int .i64 a, .int .i64 b] 29)).alloc (.cells #[.int .i64 p.x, .int .i64 p.y, .int .i64 p.e] 26)) (.cells #[.int .i64 p.x, .int .i64 p.y, .int .i64 p.e] 26)
  have hxq := Box.new ((w.alloc (.cells #[.int .i64 a, .int .i64 b] 29)).alloc (.cells #[.int .i64 p.x, .int .i64 p.y, .int .i64 p.e] 26)) 26 #[.int .i64 p.x, .int .i64 p.y, .int .i64 p.e]
  rw [show ((w.alloc (.cells #[.int .i64 a, .int .i64 b] 29)).alloc (.cells #[.int .i64 p.x, .int .i64 p.y, .int .i64 p.e] 26)).heap.size = w.heap.size + 2 from by simp] at hxq
  replace h := Below.step h hA
  replace hxc := hxc.kept hA
  replace hxp := hxp.kept hA
  clear hA
  obtain ⟨kc0, kc1⟩ := hxc.two
  have lc := hxc.lt
  obtain ⟨kp0, kp1, kp2⟩ := hxp.three
  have lp := hxp.lt
  obtain ⟨kq0, kq1, kq2⟩ := hxq.three
  have lq := hxq.lt
  go_enter Tryd.func41, Tryd.ntmps41
  go_wp2_with fail
  refine (c1.out _).mono ?_
  rintro e w1 ⟨rfl, hb⟩
  replace h := Below.step h hb
  replace hxc := hxc.kept hb
  replace hxp := hxp.kept hb
  replace hxq := hxq.kept hb
  clear hb kc0 kc1 lc kp0 kp1 kp2 lp kq0 kq1 kq2 lq
  obtain ⟨kc0, kc1⟩ := hxc.two
  have lc := hxc.lt
  obtain ⟨kp0, kp1, kp2⟩ := hxp.three
  have lp := hxp.lt
  obtain ⟨kq0, kq1, kq2⟩ := hxq.three
  have lq := hxq.lt
  go_wp2_with fail
  go_ret2
  exact ⟨rfl, h⟩


set_option maxHeartbeats 1000000 in
theorem ptSlope_tz (a b : Int) (p : P3) (w : World) (ha : -1000 ≤ a ∧ a ≤ 1000) (gp : (-10000 ≤ p.x ∧ p.x ≤ 10000) ∧ (0 ≤ p.e ∧ p.e ≤ 20) ∧ (-1800000 ≤ p.y ∧ p.y ≤ 1800000)) (hF : 2 * p.y * p.e = 0) : Calls Tryd.prog 41 #[.agg #[.int .i64 a, .int .i64 b], .agg #[.int .i64 p.x, .int .i64 p.y, .int .i64 p.e], .agg #[.int .i64 p.x, .int .i64 p.y, .int .i64 p.e]] w (GivesII w 1 0) := by
  have k1 := sl_bd ha gp gp
  have k2 := sl_bd ha gp gp
  have k3 := far_bd gp gp
  have k4 := tan_bd ha gp
  have e1 : (2 * p.y * p.e == 0) = true := by rw [hF]; rfl
  clear hF
  obtain ⟨⟨x1, x2⟩, ⟨x3, x4⟩, ⟨x5, x6⟩⟩ := gp
  have h := Below.refl w.heap.size w
  have hA := below_alloc1 w (.cells #[.int .i64 a, .int .i64 b] 29)
  have hxc := Box.new w 29 #[.int .i64 a, .int .i64 b]
  replace h := Below.step h hA
  clear hA
  have hA := below_alloc1 (w.alloc (.cells #[.int .i64 a, .int .i64 b] 29)) (.cells #[.int .i64 p.x, .int .i64 p.y, .int .i64 p.e] 26)
  have hxp := Box.new (w.alloc (.cells #[.int .i64 a, .int .i64 b] 29)) 26 #[.int .i64 p.x, .int .i64 p.y, .int .i64 p.e]
  rw [show (w.alloc (.cells #[.int .i64 a, .int .i64 b] 29)).heap.size = w.heap.size + 1 from by simp] at hxp
  replace h := Below.step h hA
  replace hxc := hxc.kept hA
  clear hA
  have hA := below_alloc1 ((w.alloc (.cells #[.int .i64 a, .int .i64 b] 29)).alloc (.cells #[.int .i64 p.x, .int .i64 p.y, .int .i64 p.e] 26)) (.cells #[.int .i64 p.x, .int .i64 p.y, .int .i64 p.e] 26)
  have hxq := Box.new ((w.alloc (.cells #[.int .i64 a, .int .i64 b] 29)).alloc (.cells #[.int .i64 p.x, .int .i64 p.y, .int .i64 p.e] 26)) 26 #[.int .i64 p.x, .int .i64 p.y, .int .i64 p.e]
  rw [show ((w.alloc (.cells #[.int .i64 a, .int .i64 b] 29)).alloc (.cells #[.int .i64 p.x, .int .i64 p.y, .int .i64 p.e] 26)).heap.size = w.heap.size + 2 from by simp] at hxq
  replace h := Below.step h hA
  replace hxc := hxc.kept hA
  replace hxp := hxp.kept hA
  clear hA
  obtain ⟨kc0, kc1⟩ := hxc.two
  have lc := hxc.lt
  obtain ⟨kp0, kp1, kp2⟩ := hxp.three
  have lp := hxp.lt
  obtain ⟨kq0, kq1, kq2⟩ := hxq.three
  have lq := hxq.lt
  go_enter Tryd.func41, Tryd.ntmps41
  go_wp2_with fail
  go_ret2
  exact ⟨rfl, h⟩


theorem ptSlope_any (a b : Int) (p q : P3) (w : World) (ha : -1000 ≤ a ∧ a ≤ 1000) (gp : (-10000 ≤ p.x ∧ p.x ≤ 10000) ∧ (0 ≤ p.e ∧ p.e ≤ 20) ∧ (-1800000 ≤ p.y ∧ p.y ≤ 1800000)) (gq : (-10000 ≤ q.x ∧ q.x ≤ 10000) ∧ (0 ≤ q.e ∧ q.e ≤ 20) ∧ (-1800000 ≤ q.y ∧ q.y ≤ 1800000)) (hF : slF p q ≠ 0) : Calls Tryd.prog 41 #[.agg #[.int .i64 a, .int .i64 b], .agg #[.int .i64 p.x, .int .i64 p.y, .int .i64 p.e], .agg #[.int .i64 q.x, .int .i64 q.y, .int .i64 q.e]] w (GivesII w (slN a p q) (slD a p q)) := by
  have bd := slU_bd ha gp gq
  have c1 : ∀ W : World, Calls Tryd.prog 48 #[.int .i64 (slU a p q), .int .i64 (slF p q)] W (GivesII W (slN a p q) (slD a p q)) := fun W => lowS_any _ _ W (by omega) (by omega) hF
  generalize slN a p q = N at *
  generalize slD a p q = D at *
  by_cases h : p = q
  · subst h
    rw [show slU a p p = 3 * p.x * p.x + a * p.e * p.e * p.e * p.e from if_pos rfl, show slF p p = 2 * p.y * p.e from if_pos rfl] at c1
    exact ptSlope_t a b p w ha gp (by rwa [show slF p p = 2 * p.y * p.e from if_pos rfl] at hF) N D c1
  · rw [show slU a p q = q.y * p.e * p.e * p.e - p.y * q.e * q.e * q.e from if_neg h, show slF p q = p.e * q.e * (q.x * p.e * p.e - p.x * q.e * q.e) from if_neg h] at c1
    exact ptSlope_d a b p q w ha gp gq h (by rwa [show slF p q = p.e * q.e * (q.x * p.e * p.e - p.x * q.e * q.e) from if_neg h] at hF) N D c1
theorem ptSlope_zero (a b : Int) (p q : P3) (w : World) (ha : -1000 ≤ a ∧ a ≤ 1000) (gp : (-10000 ≤ p.x ∧ p.x ≤ 10000) ∧ (0 ≤ p.e ∧ p.e ≤ 20) ∧ (-1800000 ≤ p.y ∧ p.y ≤ 1800000)) (gq : (-10000 ≤ q.x ∧ q.x ≤ 10000) ∧ (0 ≤ q.e ∧ q.e ≤ 20) ∧ (-1800000 ≤ q.y ∧ q.y ≤ 1800000)) (hF : slF p q = 0) : Calls Tryd.prog 41 #[.agg #[.int .i64 a, .int .i64 b], .agg #[.int .i64 p.x, .int .i64 p.y, .int .i64 p.e], .agg #[.int .i64 q.x, .int .i64 q.y, .int .i64 q.e]] w (GivesII w 1 0) := by
  by_cases h : p = q
  · subst h
    exact ptSlope_tz a b p w ha gp (by rwa [show slF p p = 2 * p.y * p.e from if_pos rfl] at hF)
  · exact ptSlope_dz a b p q w ha gp gq h (by rwa [show slF p q = p.e * q.e * (q.x * p.e * p.e - p.x * q.e * q.e) from if_neg h] at hF)
end Go.Proofs.YtabcnkobojkdhaaDoor
