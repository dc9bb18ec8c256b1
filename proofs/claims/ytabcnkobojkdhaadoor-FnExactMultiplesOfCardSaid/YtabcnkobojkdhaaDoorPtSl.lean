/- SlopeOf of the model and of the program (written by wip/gen/ptsl.py). -/
import Derived.Test.YtabcnkobojkdhaaDoorPtA
import Derived.Test.YtabcnkobojkdhaaDoorPtI
import Derived.Test.YtabcnkobojkdhaaDoorPtLow
import Derived.Test.YtabcnkobojkdhaaDoorFrMake
import Derived.Deep.RegionHeld3
import Derived.Deep.DeepCutAuto
import Derived.BigQuiet
namespace Go.Proofs.YtabcnkobojkdhaaDoor
open Go.RowKit Go.Joins

set_option maxHeartbeats 1000000 in
set_option maxRecDepth 100000 in
theorem scales0_any (u P Q : Int) (w : World) (hu : 0 ≤ u ∧ u ≤ 20) (hP : u * u * (u * u) = P) (hQ : u * u * (u * u) * (u * u) = Q) : Calls Tryd.prog 43 #[.int .i64 u] w (fun e w' => e = .returned (.tuple #[.int .i64 P, .int .i64 Q]) ∧ w = w') := by
  have k1 := mul_bd0 hu.1 hu.2 hu.1 hu.2
  have k2 := mul_bd0 k1.1 k1.2 k1.1 k1.2
  have k3 := mul_bd0 k2.1 k2.2 k1.1 k1.2
  replace hP := Lib.hid hP
  replace hQ := Lib.hid hQ
  have h := Below.refl w.heap.size w
  go_enter Tryd.func43, Tryd.ntmps43
  go_wp2_with fail
  rw [hQ.out, hP.out]
  go_ret2
  exact ⟨rfl, rfl⟩


set_option maxHeartbeats 1000000 in
set_option maxRecDepth 100000 in
theorem slopeI_t (a b : Int) (p : P3) (w : World) (hL : Lim w) (g : PtG a b p) (ha : -1000 ≤ a ∧ a ≤ 1000) (gp : (-10000 ≤ p.x ∧ p.x ≤ 10000) ∧ (0 ≤ p.e ∧ p.e ≤ 20) ∧ (-1800000 ≤ p.y ∧ p.y ≤ 1800000)) (P : Int) (hP : p.e * p.e * (p.e * p.e) = P) (r s : Int) (ok : Bool) (c1 : ∀ W : World, Lim W → Calls Tryd.prog 44 #[.int .i64 (3 * p.x * p.x + a * P), .int .i64 (2 * p.y * p.e)] W (GivesFB W r s ok)) : Calls Tryd.prog 29 #[.agg #[.int .i64 a, .int .i64 b], .agg #[.int .i64 p.x, .int .i64 p.y, .int .i64 p.e], .agg #[.int .i64 p.x, .int .i64 p.y, .int .i64 p.e]] w (GivesFB w r s ok) := by
  have k1 := sl_bd ha gp gp
  have k3 := tan_bd ha gp
  have kP : 0 ≤ P ∧ P ≤ 160000 := by have h1 := mul_bd0 gp.2.1.1 gp.2.1.2 gp.2.1.1 gp.2.1.2; have h2 := mul_bd0 h1.1 h1.2 h1.1 h1.2; omega
  have k4 := fr_mul_bd ha.1 ha.2 (show -160000 ≤ P by omega) kP.2
  have c0 := fun W => scales0_any p.e P _ W gp.2.1 hP rfl
  have cp := fun W => isPtI_on a b p W g
  replace c0 := Lib.hid c0
  replace c1 := Lib.hid c1
  replace cp := Lib.hid cp
  clear hP g
  obtain ⟨⟨x1, x2⟩, ⟨x3, x4⟩, ⟨x5, x6⟩⟩ := gp
  have h := Below.refl w.heap.size w
  have hA := below_alloc1 w (.cells #[.int .i64 a, .int .i64 b] 29)
  have hxc := Box.new w 29 #[.int .i64 a, .int .i64 b]
  replace h := Below.step h hA
  clear hA
  have hA := below_alloc1 (w.alloc (.cells #[.int .i64 a, .int .i64 b] 29)) (.cells #[.int .i64 p.x, .int .i64 p.y, .int .i64 p.e] 26)
  have hxp := Box.new (w.alloc (.cells #[.int .i64 a, .int .i64 b] 29)) 26 #[.int .i64 p.x, .int .i64 p.y, .int .i64 p.e]
  rw [show (w.alloc (.cells #[.int .i64 a, .int .i64 b] 29)).heap.size = w.heap.size + 1 from by simp] at hxp
  replace h := Below.step h hA
  replace hxc := hxc.kept hA
  clear hA
  have hA := below_alloc1 ((w.alloc (.cells #[.int .i64 a, .int .i64 b] 29)).alloc (.cells #[.int .i64 p.x, .int .i64 p.y, .int .i64 p.e] 26)) (.cells #[.int .i64 p.x, .int .i64 p.y, .int .i64 p.e] 26)
  have hxq := Box.new ((w.alloc (.cells #[.int .i64 a, .int .i64 b] 29)).alloc (.cells #[.int .i64 p.x, .int .i64 p.y, .int .i64 p.e] 26)) 26 #[.int .i64 p.x, .int .i64 p.y, .int .i64 p.e]
  rw [show ((w.alloc (.cells #[.int .i64 a, .int .i64 b] 29)).alloc (.cells #[.int .i64 p.x, .int .i64 p.y, .int .i64 p.e] 26)).heap.size = w.heap.size + 2 from by simp] at hxq
  replace h := Below.step h hA
  replace hxc := hxc.kept hA
  replace hxp := hxp.kept hA
  clear hA
  have hA := below_alloc1 (((w.alloc (.cells #[.int .i64 a, .int .i64 b] 29)).alloc (.cells #[.int .i64 p.x, .int .i64 p.y, .int .i64 p.e] 26)).alloc (.cells #[.int .i64 p.x, .int .i64 p.y, .int .i64 p.e] 26)) (.cells #[.int .i64 0, .int .i64 0] 49)
  have hxr := Box.new (((w.alloc (.cells #[.int .i64 a, .int .i64 b] 29)).alloc (.cells #[.int .i64 p.x, .int .i64 p.y, .int .i64 p.e] 26)).alloc (.cells #[.int .i64 p.x, .int .i64 p.y, .int .i64 p.e] 26)) 49 #[.int .i64 0, .int .i64 0]
  rw [show (((w.alloc (.cells #[.int .i64 a, .int .i64 b] 29)).alloc (.cells #[.int .i64 p.x, .int .i64 p.y, .int .i64 p.e] 26)).alloc (.cells #[.int .i64 p.x, .int .i64 p.y, .int .i64 p.e] 26)).heap.size = w.heap.size + 3 from by simp] at hxr
  replace h := Below.step h hA
  replace hxc := hxc.kept hA
  replace hxp := hxp.kept hA
  replace hxq := hxq.kept hA
  clear hA
  obtain ⟨kc0, kc1⟩ := hxc.two
  have lc := hxc.lt
  obtain ⟨kp0, kp1, kp2⟩ := hxp.three
  have lp := hxp.lt
  obtain ⟨kq0, kq1, kq2⟩ := hxq.three
  have lq := hxq.lt
  obtain ⟨kr0, kr1⟩ := hxr.two
  have lr := hxr.lt
  replace hL := hL.kept h
  go_enter Tryd.func29, Tryd.ntmps29
  go_wp2_with fail
  refine (cp.out _).mono ?_
  rintro e w1 ⟨rfl, hb⟩
  replace h := Below.step h hb
  replace hxc := hxc.kept hb
  replace hxp := hxp.kept hb
  replace hxq := hxq.kept hb
  replace hxr := hxr.kept hb
  replace hL := hL.kept hb
  clear hb kc0 kc1 lc kp0 kp1 kp2 lp kq0 kq1 kq2 lq kr0 kr1 lr
  obtain ⟨kc0, kc1⟩ := hxc.two
  have lc := hxc.lt
  obtain ⟨kp0, kp1, kp2⟩ := hxp.three
  have lp := hxp.lt
  obtain ⟨kq0, kq1, kq2⟩ := hxq.three
  have lq := hxq.lt
  obtain ⟨kr0, kr1⟩ := hxr.two
  have lr := hxr.lt
  go_wp2_with fail
  refine (cp.out _).mono ?_
  rintro e w2 ⟨rfl, hb⟩
  replace h := Below.step h hb
  replace hxc := hxc.kept hb
  replace hxp := hxp.kept hb
  replace hxq := hxq.kept hb
  replace hxr := hxr.kept hb
  replace hL := hL.kept hb
  clear hb kc0 kc1 lc kp0 kp1 kp2 lp kq0 kq1 kq2 lq kr0 kr1 lr
  obtain ⟨kc0, kc1⟩ := hxc.two
  have lc := hxc.lt
  obtain ⟨kp0, kp1, kp2⟩ := hxp.three
  have lp := hxp.lt
  obtain ⟨kq0, kq1, kq2⟩ := hxq.three
  have lq := hxq.lt
  obtain ⟨kr0, kr1⟩ := hxr.two
  have lr := hxr.lt
  go_wp2_with fail
  refine (c0.out _).mono ?_
  rintro e w3 ⟨rfl, rfl⟩
  go_wp2_with fail
  refine (c1.out _ hL).mono ?_
  rintro e w4 ⟨rfl, hb⟩
  replace h := Below.step h hb
  replace hxc := hxc.kept hb
  replace hxp := hxp.kept hb
  replace hxq := hxq.kept hb
  replace hxr := hxr.kept hb
  replace hL := hL.kept hb
  clear hb kc0 kc1 lc kp0 kp1 kp2 lp kq0 kq1 kq2 lq kr0 kr1 lr
  obtain ⟨kc0, kc1⟩ := hxc.two
  have lc := hxc.lt
  obtain ⟨kp0, kp1, kp2⟩ := hxp.three
  have lp := hxp.lt
  obtain ⟨kq0, kq1, kq2⟩ := hxq.three
  have lq := hxq.lt
  obtain ⟨kr0, kr1⟩ := hxr.two
  have lr := hxr.lt
  have fr0 := hxr.free 0
  have fr1 := hxr.free 1
  obtain ⟨sr0, sr1⟩ := ((hxr.set 0 (.int .i64 r)).set 1 (.int .i64 s)).two
  go_wp2_with fail
  refine bodyPost_ret (v := .tuple #[.agg #[.int .i64 r, .int .i64 s], .bool ok]) (by simp [results, Tryd.results29, go_sem, sr0, sr1]) (by rfl) ⟨by rfl, ?_⟩
  exact below_sets2 h (by omega) _ _


set_option maxHeartbeats 1000000 in
set_option maxRecDepth 100000 in
theorem slopeI_d (a b : Int) (p q : P3) (w : World) (hL : Lim w) (g : PtG a b p) (g' : PtG a b q) (ha : -1000 ≤ a ∧ a ≤ 1000) (gp : (-10000 ≤ p.x ∧ p.x ≤ 10000) ∧ (0 ≤ p.e ∧ p.e ≤ 20) ∧ (-1800000 ≤ p.y ∧ p.y ≤ 1800000)) (gq : (-10000 ≤ q.x ∧ q.x ≤ 10000) ∧ (0 ≤ q.e ∧ q.e ≤ 20) ∧ (-1800000 ≤ q.y ∧ q.y ≤ 1800000)) (h : ¬ p = q) (r s : Int) (ok : Bool) (c1 : ∀ W : World, Lim W → Calls Tryd.prog 44 #[.int .i64 (q.y * p.e * p.e * p.e - p.y * q.e * q.e * q.e), .int .i64 (p.e * q.e * (q.x * p.e * p.e - p.x * q.e * q.e))] W (GivesFB W r s ok)) : Calls Tryd.prog 29 #[.agg #[.int .i64 a, .int .i64 b], .agg #[.int .i64 p.x, .int .i64 p.y, .int .i64 p.e], .agg #[.int .i64 q.x, .int .i64 q.y, .int .i64 q.e]] w (GivesFB w r s ok) := by
  have k1 := sl_bd ha gp gq
  have k2 := sl_bd ha gq gp
  have k3 := far_bd gp gq
  have e0 := neq_false h
  have cp := fun W => isPtI_on a b p W g
  have cq := fun W => isPtI_on a b q W g'
  replace c1 := Lib.hid c1
  replace cp := Lib.hid cp
  replace cq := Lib.hid cq
  clear h g g'
  obtain ⟨⟨x1, x2⟩, ⟨x3, x4⟩, ⟨x5, x6⟩⟩ := gp
  obtain ⟨⟨y1, y2⟩, ⟨y3, y4⟩, ⟨y5, y6⟩⟩ := gq
  have h := Below.refl w.heap.size w
  have hA := below_alloc1 w (.cells #[.int .i64 a, .int .i64 b] 29)
  have hxc := Box.new w 29 #[.int .i64 a, .int .i64 b]
  replace h := Below.step h hA
  clear hA
  have hA := below_alloc1 (w.alloc (.cells #[.int .i64 a, .int .i64 b] 29)) (.cells #[.int .i64 p.x, .int .i64 p.y, .int .i64 p.e] 26)
  have hxp := Box.new (w.alloc (.cells #[.int .i64 a, .int .i64 b] 29)) 26 #[.int .i64 p.x, .int .i64 p.y, .int .i64 p.e]
  rw [show (w.alloc (.cells #[.int .i64 a, .int .i64 b] 29)).heap.size = w.heap.size + 1 from by simp] at hxp
  replace h := Below.step h hA
  replace hxc := hxc.kept hA
  clear hA
  have hA := below_alloc1 ((w.alloc (.cells #[.int .i64 a, .int .i64 b] 29)).alloc (.cells #[.int .i64 p.x, .int .i64 p.y, .int .i64 p.e] 26)) (.cells #[.int .i64 q.x, .int .i64 q.y, .int .i64 q.e] 26)
  have hxq := Box.new ((w.alloc (.cells #[.int .i64 a, .int .i64 b] 29)).alloc (.cells #[.int .i64 p.x, .int .i64 p.y, .int .i64 p.e] 26)) 26 #[.int .i64 q.x, .int .i64 q.y, .int .i64 q.e]
  rw [show ((w.alloc (.cells #[.int .i64 a, .int .i64 b] 29)).alloc (.cells #[.int .i64 p.x, .int .i64 p.y, .int .i64 p.e] 26)).heap.size = w.heap.size + 2 from by simp] at hxq
  replace h := Below.step h hA
  replace hxc := hxc.kept hA
  replace hxp := hxp.kept hA
  clear hA
  have hA := below_alloc1 (((w.alloc (.cells #[.int .i64 a, .int .i64 b] 29)).alloc (.cells #[.int .i64 p.x, .int .i64 p.y, .int .i64 p.e] 26)).alloc (.cells #[.int .i64 q.x, .int .i64 q.y, .int .i64 q.e] 26)) (.cells #[.int .i64 0, .int .i64 0] 49)
  have hxr := Box.new (((w.alloc (.cells #[.int .i64 a, .int .i64 b] 29)).alloc (.cells #[.int .i64 p.x, .int .i64 p.y, .int .i64 p.e] 26)).alloc (.cells #[.int .i64 q.x, .int .i64 q.y, .int .i64 q.e] 26)) 49 #[.int .i64 0, .int .i64 0]
  rw [show (((w.alloc (.cells #[.int .i64 a, .int .i64 b] 29)).alloc (.cells #[.int .i64 p.x, .int .i64 p.y, .int .i64 p.e] 26)).alloc (.cells #[.int .i64 q.x, .int .i64 q.y, .int .i64 q.e] 26)).heap.size = w.heap.size + 3 from by simp] at hxr
  replace h := Below.step h hA
  replace hxc := hxc.kept hA
  replace hxp := hxp.kept hA
  replace hxq := hxq.kept hA
  clear hA
  obtain ⟨kc0, kc1⟩ := hxc.two
  have lc := hxc.lt
  obtain ⟨kp0, kp1, kp2⟩ := hxp.three
  have lp := hxp.lt
  obtain ⟨kq0, kq1, kq2⟩ := hxq.three
  have lq := hxq.lt
  obtain ⟨kr0, kr1⟩ := hxr.two
  have lr := hxr.lt
  replace hL := hL.kept h
  go_enter Tryd.func29, Tryd.ntmps29
  go_wp2_with fail
  refine (cp.out _).mono ?_
  rintro e w1 ⟨rfl, hb⟩
  replace h := Below.step h hb
  replace hxc := hxc.kept hb
  replace hxp := hxp.kept hb
  replace hxq := hxq.kept hb
  replace hxr := hxr.kept hb
  replace hL := hL.kept hb
  clear hb kc0 kc1 lc kp0 kp1 kp2 lp kq0 kq1 kq2 lq kr0 kr1 lr
  obtain ⟨kc0, kc1⟩ := hxc.two
  have lc := hxc.lt
  obtain ⟨kp0, kp1, kp2⟩ := hxp.three
  have lp := hxp.lt
  obtain ⟨kq0, kq1, kq2⟩ := hxq.three
  have lq := hxq.lt
  obtain ⟨kr0, kr1⟩ := hxr.two
  have lr := hxr.lt
  go_wp2_with fail
  refine (cq.out _).mono ?_
  rintro e w2 ⟨rfl, hb⟩
  replace h := Below.step h hb
  replace hxc := hxc.kept hb
  replace hxp := hxp.kept hb
  replace hxq := hxq.kept hb
  replace hxr := hxr.kept hb
  replace hL := hL.kept hb
  clear hb kc0 kc1 lc kp0 kp1 kp2 lp kq0 kq1 kq2 lq kr0 kr1 lr
  obtain ⟨kc0, kc1⟩ := hxc.two
  have lc := hxc.lt
  obtain ⟨kp0, kp1, kp2⟩ := hxp.three
  have lp := hxp.lt
  obtain ⟨kq0, kq1, kq2⟩ := hxq.three
  have lq := hxq.lt
  obtain ⟨kr0, kr1⟩ := hxr.two
  have lr := hxr.lt
  go_wp2_with fail
  refine (c1.out _ hL).mono ?_
  rintro e w3 ⟨rfl, hb⟩
  replace h := Below.step h hb
  replace hxc := hxc.kept hb
  replace hxp := hxp.kept hb
  replace hxq := hxq.kept hb
  replace hxr := hxr.kept hb
  replace hL := hL.kept hb
  clear hb kc0 kc1 lc kp0 kp1 kp2 lp kq0 kq1 kq2 lq kr0 kr1 lr
  obtain ⟨kc0, kc1⟩ := hxc.two
  have lc := hxc.lt
  obtain ⟨kp0, kp1, kp2⟩ := hxp.three
  have lp := hxp.lt
  obtain ⟨kq0, kq1, kq2⟩ := hxq.three
  have lq := hxq.lt
  obtain ⟨kr0, kr1⟩ := hxr.two
  have lr := hxr.lt
  have fr0 := hxr.free 0
  have fr1 := hxr.free 1
  obtain ⟨sr0, sr1⟩ := ((hxr.set 0 (.int .i64 r)).set 1 (.int .i64 s)).two
  go_wp2_with fail
  refine bodyPost_ret (v := .tuple #[.agg #[.int .i64 r, .int .i64 s], .bool ok]) (by simp [results, Tryd.results29, go_sem, sr0, sr1]) (by rfl) ⟨by rfl, ?_⟩
  exact below_sets2 h (by omega) _ _


set_option maxHeartbeats 1000000 in
set_option maxRecDepth 100000 in
theorem slopeI_off0 (a b : Int) (p q : P3) (w : World) (g : ¬ PtG a b p) : Calls Tryd.prog 29 #[.agg #[.int .i64 a, .int .i64 b], .agg #[.int .i64 p.x, .int .i64 p.y, .int .i64 p.e], .agg #[.int .i64 q.x, .int .i64 q.y, .int .i64 q.e]] w (GivesFB w 0 0 false) := by
  have h := Below.refl w.heap.size w
  have hA := below_alloc1 w (.cells #[.int .i64 a, .int .i64 b] 29)
  have hxc := Box.new w 29 #[.int .i64 a, .int .i64 b]
  replace h := Below.step h hA
  clear hA
  have hA := below_alloc1 (w.alloc (.cells #[.int .i64 a, .int .i64 b] 29)) (.cells #[.int .i64 p.x, .int .i64 p.y, .int .i64 p.e] 26)
  have hxp := Box.new (w.alloc (.cells #[.int .i64 a, .int .i64 b] 29)) 26 #[.int .i64 p.x, .int .i64 p.y, .int .i64 p.e]
  rw [show (w.alloc (.cells #[.int .i64 a, .int .i64 b] 29)).heap.size = w.heap.size + 1 from by simp] at hxp
  replace h := Below.step h hA
  replace hxc := hxc.kept hA
  clear hA
  have hA := below_alloc1 ((w.alloc (.cells #[.int .i64 a, .int .i64 b] 29)).alloc (.cells #[.int .i64 p.x, .int .i64 p.y, .int .i64 p.e] 26)) (.cells #[.int .i64 q.x, .int .i64 q.y, .int .i64 q.e] 26)
  have hxq := Box.new ((w.alloc (.cells #[.int .i64 a, .int .i64 b] 29)).alloc (.cells #[.int .i64 p.x, .int .i64 p.y, .int .i64 p.e] 26)) 26 #[.int .i64 q.x, .int .i64 q.y, .int .i64 q.e]
  rw [show ((w.alloc (.cells #[.int .i64 a, .int .i64 b] 29)).alloc (.cells #[.int .i64 p.x, .int .i64 p.y, .int .i64 p.e] 26)).heap.size = w.heap.size + 2 from by simp] at hxq
  replace h := Below.step h hA
  replace hxc := hxc.kept hA
  replace hxp := hxp.kept hA
  clear hA
  have hA := below_alloc1 (((w.alloc (.cells #[.int .i64 a, .int .i64 b] 29)).alloc (.cells #[.int .i64 p.x, .int .i64 p.y, .int .i64 p.e] 26)).alloc (.cells #[.int .i64 q.x, .int .i64 q.y, .int .i64 q.e] 26)) (.cells #[.int .i64 0, .int .i64 0] 49)
  have hxr := Box.new (((w.alloc (.cells #[.int .i64 a, .int .i64 b] 29)).alloc (.cells #[.int .i64 p.x, .int .i64 p.y, .int .i64 p.e] 26)).alloc (.cells #[.int .i64 q.x, .int .i64 q.y, .int .i64 q.e] 26)) 49 #[.int .i64 0, .int .i64 0]
  rw [show (((w.alloc (.cells #[.int .i64 a, .int .i64 b] 29)).alloc (.cells #[.int .i64 p.x, .int .i64 p.y, .int .i64 p.e] 26)).alloc (.cells #[.int .i64 q.x, .int .i64 q.y, .int .i64 q.e] 26)).heap.size = w.heap.size + 3 from by simp] at hxr
  replace h := Below.step h hA
  replace hxc := hxc.kept hA
  replace hxp := hxp.kept hA
  replace hxq := hxq.kept hA
  clear hA
  obtain ⟨kc0, kc1⟩ := hxc.two
  have lc := hxc.lt
  obtain ⟨kp0, kp1, kp2⟩ := hxp.three
  have lp := hxp.lt
  obtain ⟨kq0, kq1, kq2⟩ := hxq.three
  have lq := hxq.lt
  obtain ⟨kr0, kr1⟩ := hxr.two
  have lr := hxr.lt
  go_enter Tryd.func29, Tryd.ntmps29
  go_wp2_with fail
  refine (isPtI_off a b p _ g).mono ?_
  rintro e w1 ⟨rfl, hb⟩
  replace h := Below.step h hb
  replace hxc := hxc.kept hb
  replace hxp := hxp.kept hb
  replace hxq := hxq.kept hb
  replace hxr := hxr.kept hb
  clear hb kc0 kc1 lc kp0 kp1 kp2 lp kq0 kq1 kq2 lq kr0 kr1 lr
  obtain ⟨kc0, kc1⟩ := hxc.two
  have lc := hxc.lt
  obtain ⟨kp0, kp1, kp2⟩ := hxp.three
  have lp := hxp.lt
  obtain ⟨kq0, kq1, kq2⟩ := hxq.three
  have lq := hxq.lt
  obtain ⟨kr0, kr1⟩ := hxr.two
  have lr := hxr.lt
  have fr0 := hxr.free 0
  have fr1 := hxr.free 1
  obtain ⟨sr0, sr1⟩ := ((hxr.set 0 (.int .i64 0)).set 1 (.int .i64 0)).two
  go_wp2_with fail
  refine bodyPost_ret (v := .tuple #[.agg #[.int .i64 0, .int .i64 0], .bool false]) (by simp [results, Tryd.results29, go_sem, sr0, sr1]) (by rfl) ⟨by rfl, ?_⟩
  exact below_sets2 h (by omega) _ _


set_option maxHeartbeats 1000000 in
set_option maxRecDepth 100000 in
theorem slopeI_off1 (a b : Int) (p q : P3) (w : World) (g : PtG a b p) (g' : ¬ PtG a b q) : Calls Tryd.prog 29 #[.agg #[.int .i64 a, .int .i64 b], .agg #[.int .i64 p.x, .int .i64 p.y, .int .i64 p.e], .agg #[.int .i64 q.x, .int .i64 q.y, .int .i64 q.e]] w (GivesFB w 0 0 false) := by
  have h := Below.refl w.heap.size w
  have hA := below_alloc1 w (.cells #[.int .i64 a, .int .i64 b] 29)
  have hxc := Box.new w 29 #[.int .i64 a, .int .i64 b]
  replace h := Below.step h hA
  clear hA
  have hA := below_alloc1 (w.alloc (.cells #[.int .i64 a, .int .i64 b] 29)) (.cells #[.int .i64 p.x, .int .i64 p.y, .int .i64 p.e] 26)
  have hxp := Box.new (w.alloc (.cells #[.int .i64 a, .int .i64 b] 29)) 26 #[.int .i64 p.x, .int .i64 p.y, .int .i64 p.e]
  rw [show (w.alloc (.cells #[.int .i64 a, .int .i64 b] 29)).heap.size = w.heap.size + 1 from by simp] at hxp
  replace h := Below.step h hA
  replace hxc := hxc.kept hA
  clear hA
  have hA := below_alloc1 ((w.alloc (.cells #[.int .i64 a, .int .i64 b] 29)).alloc (.cells #[.int .i64 p.x, .int .i64 p.y, .int .i64 p.e] 26)) (.cells #[.int .i64 q.x, .int .i64 q.y, .int .i64 q.e] 26)
  have hxq := Box.new ((w.alloc (.cells #[.int .i64 a, .int .i64 b] 29)).alloc (.cells #[.int .i64 p.x, .int .i64 p.y, .int .i64 p.e] 26)) 26 #[.int .i64 q.x, .int .i64 q.y, .int .i64 q.e]
  rw [show ((w.alloc (.cells #[.int .i64 a, .int .i64 b] 29)).alloc (.cells #[.int .i64 p.x, .int .i64 p.y, .int .i64 p.e] 26)).heap.size = w.heap.size + 2 from by simp] at hxq
  replace h := Below.step h hA
  replace hxc := hxc.kept hA
  replace hxp := hxp.kept hA
  clear hA
  have hA := below_alloc1 (((w.alloc (.cells #[.int .i64 a, .int .i64 b] 29)).alloc (.cells #[.int .i64 p.x, .int .i64 p.y, .int .i64 p.e] 26)).alloc (.cells #[.int .i64 q.x, .int .i64 q.y, .int .i64 q.e] 26)) (.cells #[.int .i64 0, .int .i64 0] 49)
  have hxr := Box.new (((w.alloc (.cells #[.int .i64 a, .int .i64 b] 29)).alloc (.cells #[.int .i64 p.x, .int .i64 p.y, .int .i64 p.e] 26)).alloc (.cells #[.int .i64 q.x, .int .i64 q.y, .int .i64 q.e] 26)) 49 #[.int .i64 0, .int .i64 0]
  rw [show (((w.alloc (.cells #[.int .i64 a, .int .i64 b] 29)).alloc (.cells #[.int .i64 p.x, .int .i64 p.y, .int .i64 p.e] 26)).alloc (.cells #[.int .i64 q.x, .int .i64 q.y, .int .i64 q.e] 26)).heap.size = w.heap.size + 3 from by simp] at hxr
  replace h := Below.step h hA
  replace hxc := hxc.kept hA
  replace hxp := hxp.kept hA
  replace hxq := hxq.kept hA
  clear hA
  obtain ⟨kc0, kc1⟩ := hxc.two
  have lc := hxc.lt
  obtain ⟨kp0, kp1, kp2⟩ := hxp.three
  have lp := hxp.lt
  obtain ⟨kq0, kq1, kq2⟩ := hxq.three
  have lq := hxq.lt
  obtain ⟨kr0, kr1⟩ := hxr.two
  have lr := hxr.lt
  go_enter Tryd.func29, Tryd.ntmps29
  go_wp2_with fail
  refine (isPtI_on a b p _ g).mono ?_
  rintro e w1 ⟨rfl, hb⟩
  replace h := Below.step h hb
  replace hxc := hxc.kept hb
  replace hxp := hxp.kept hb
  replace hxq := hxq.kept hb
  replace hxr := hxr.kept hb
  clear hb kc0 kc1 lc kp0 kp1 kp2 lp kq0 kq1 kq2 lq kr0 kr1 lr
  obtain ⟨kc0, kc1⟩ := hxc.two
  have lc := hxc.lt
  obtain ⟨kp0, kp1, kp2⟩ := hxp.three
  have lp := hxp.lt
  obtain ⟨kq0, kq1, kq2⟩ := hxq.three
  have lq := hxq.lt
  obtain ⟨kr0, kr1⟩ := hxr.two
  have lr := hxr.lt
  go_wp2_with fail
  refine (isPtI_off a b q _ g').mono ?_
  rintro e w2 ⟨rfl, hb⟩
  replace h := Below.step h hb
  replace hxc := hxc.kept hb
  replace hxp := hxp.kept hb
  replace hxq := hxq.kept hb
  replace hxr := hxr.kept hb
  clear hb kc0 kc1 lc kp0 kp1 kp2 lp kq0 kq1 kq2 lq kr0 kr1 lr
  obtain ⟨kc0, kc1⟩ := hxc.two
  have lc := hxc.lt
  obtain ⟨kp0, kp1, kp2⟩ := hxp.three
  have lp := hxp.lt
  obtain ⟨kq0, kq1, kq2⟩ := hxq.three
  have lq := hxq.lt
  obtain ⟨kr0, kr1⟩ := hxr.two
  have lr := hxr.lt
  have fr0 := hxr.free 0
  have fr1 := hxr.free 1
  obtain ⟨sr0, sr1⟩ := ((hxr.set 0 (.int .i64 0)).set 1 (.int .i64 0)).two
  go_wp2_with fail
  refine bodyPost_ret (v := .tuple #[.agg #[.int .i64 0, .int .i64 0], .bool false]) (by simp [results, Tryd.results29, go_sem, sr0, sr1]) (by rfl) ⟨by rfl, ?_⟩
  exact below_sets2 h (by omega) _ _


set_option maxHeartbeats 1000000 in
set_option maxRecDepth 100000 in
theorem slopeS_off0 (a b : Int) (p q : P3) (w : World) (g : ¬ PtG a b p) : Calls Tryd.prog 28 #[.agg #[.int .i64 a, .int .i64 b], .agg #[.int .i64 p.x, .int .i64 p.y, .int .i64 p.e], .agg #[.int .i64 q.x, .int .i64 q.y, .int .i64 q.e]] w (GivesFB w 0 0 false) := by
  have h := Below.refl w.heap.size w
  have hA := below_alloc1 w (.cells #[.int .i64 a, .int .i64 b] 29)
  have hxc := Box.new w 29 #[.int .i64 a, .int .i64 b]
  replace h := Below.step h hA
  clear hA
  have hA := below_alloc1 (w.alloc (.cells #[.int .i64 a, .int .i64 b] 29)) (.cells #[.int .i64 p.x, .int .i64 p.y, .int .i64 p.e] 26)
  have hxp := Box.new (w.alloc (.cells #[.int .i64 a, .int .i64 b] 29)) 26 #[.int .i64 p.x, .int .i64 p.y, .int .i64 p.e]
  rw [show (w.alloc (.cells #[.int .i64 a, .int .i64 b] 29)).heap.size = w.heap.size + 1 from by simp] at hxp
  replace h := Below.step h hA
  replace hxc := hxc.kept hA
  clear hA
  have hA := below_alloc1 ((w.alloc (.cells #[.int .i64 a, .int .i64 b] 29)).alloc (.cells #[.int .i64 p.x, .int .i64 p.y, .int .i64 p.e] 26)) (.cells #[.int .i64 q.x, .int .i64 q.y, .int .i64 q.e] 26)
  have hxq := Box.new ((w.alloc (.cells #[.int .i64 a, .int .i64 b] 29)).alloc (.cells #[.int .i64 p.x, .int .i64 p.y, .int .i64 p.e] 26)) 26 #[.int .i64 q.x, .int .i64 q.y, .int .i64 q.e]
  rw [show ((w.alloc (.cells #[.int .i64 a, .int .i64 b] 29)).alloc (.cells #[.int .i64 p.x, .int .i64 p.y, .int .i64 p.e] 26)).heap.size = w.heap.size + 2 from by simp] at hxq
  replace h := Below.step h hA
  replace hxc := hxc.kept hA
  replace hxp := hxp.kept hA
  clear hA
  have hA := below_alloc1 (((w.alloc (.cells #[.int .i64 a, .int .i64 b] 29)).alloc (.cells #[.int .i64 p.x, .int .i64 p.y, .int .i64 p.e] 26)).alloc (.cells #[.int .i64 q.x, .int .i64 q.y, .int .i64 q.e] 26)) (.cells #[.int .i64 0, .int .i64 0] 49)
  have hxr := Box.new (((w.alloc (.cells #[.int .i64 a, .int .i64 b] 29)).alloc (.cells #[.int .i64 p.x, .int .i64 p.y, .int .i64 p.e] 26)).alloc (.cells #[.int .i64 q.x, .int .i64 q.y, .int .i64 q.e] 26)) 49 #[.int .i64 0, .int .i64 0]
  rw [show (((w.alloc (.cells #[.int .i64 a, .int .i64 b] 29)).alloc (.cells #[.int .i64 p.x, .int .i64 p.y, .int .i64 p.e] 26)).alloc (.cells #[.int .i64 q.x, .int .i64 q.y, .int .i64 q.e] 26)).heap.size = w.heap.size + 3 from by simp] at hxr
  replace h := Below.step h hA
  replace hxc := hxc.kept hA
  replace hxp := hxp.kept hA
  replace hxq := hxq.kept hA
  clear hA
  obtain ⟨kc0, kc1⟩ := hxc.two
  have lc := hxc.lt
  obtain ⟨kp0, kp1, kp2⟩ := hxp.three
  have lp := hxp.lt
  obtain ⟨kq0, kq1, kq2⟩ := hxq.three
  have lq := hxq.lt
  obtain ⟨kr0, kr1⟩ := hxr.two
  have lr := hxr.lt
  go_enter Tryd.func28, Tryd.ntmps28
  go_wp2_with fail
  refine (isPtS_off a b p _ g).mono ?_
  rintro e w1 ⟨rfl, hb⟩
  replace h := Below.step h hb
  replace hxc := hxc.kept hb
  replace hxp := hxp.kept hb
  replace hxq := hxq.kept hb
  replace hxr := hxr.kept hb
  clear hb kc0 kc1 lc kp0 kp1 kp2 lp kq0 kq1 kq2 lq kr0 kr1 lr
  obtain ⟨kc0, kc1⟩ := hxc.two
  have lc := hxc.lt
  obtain ⟨kp0, kp1, kp2⟩ := hxp.three
  have lp := hxp.lt
  obtain ⟨kq0, kq1, kq2⟩ := hxq.three
  have lq := hxq.lt
  obtain ⟨kr0, kr1⟩ := hxr.two
  have lr := hxr.lt
  have fr0 := hxr.free 0
  have fr1 := hxr.free 1
  obtain ⟨sr0, sr1⟩ := ((hxr.set 0 (.int .i64 0)).set 1 (.int .i64 0)).two
  go_wp2_with fail
  refine bodyPost_ret (v := .tuple #[.agg #[.int .i64 0, .int .i64 0], .bool false]) (by simp [results, Tryd.results28, go_sem, sr0, sr1]) (by rfl) ⟨by rfl, ?_⟩
  exact below_sets2 h (by omega) _ _


set_option maxHeartbeats 1000000 in
set_option maxRecDepth 100000 in
theorem slopeS_off1 (a b : Int) (p q : P3) (w : World) (g : PtG a b p) (g' : ¬ PtG a b q) : Calls Tryd.prog 28 #[.agg #[.int .i64 a, .int .i64 b], .agg #[.int .i64 p.x, .int .i64 p.y, .int .i64 p.e], .agg #[.int .i64 q.x, .int .i64 q.y, .int .i64 q.e]] w (GivesFB w 0 0 false) := by
  have h := Below.refl w.heap.size w
  have hA := below_alloc1 w (.cells #[.int .i64 a, .int .i64 b] 29)
  have hxc := Box.new w 29 #[.int .i64 a, .int .i64 b]
  replace h := Below.step h hA
  clear hA
  have hA := below_alloc1 (w.alloc (.cells #[.int .i64 a, .int .i64 b] 29)) (.cells #[.int .i64 p.x, .int .i64 p.y, .int .i64 p.e] 26)
  have hxp := Box.new (w.alloc (.cells #[.int .i64 a, .int .i64 b] 29)) 26 #[.int .i64 p.x, .int .i64 p.y, .int .i64 p.e]
  rw [show (w.alloc (.cells #[.int .i64 a, .int .i64 b] 29)).heap.size = w.heap.size + 1 from by simp] at hxp
  replace h := Below.step h hA
  replace hxc := hxc.kept hA
  clear hA
  have hA := below_alloc1 ((w.alloc (.cells #[.int .i64 a, .int .i64 b] 29)).alloc (.cells #[.int .i64 p.x, .int .i64 p.y, .int .i64 p.e] 26)) (.cells #[.int .i64 q.x, .int .i64 q.y, .int .i64 q.e] 26)
  have hxq := Box.new ((w.alloc (.cells #[.int .i64 a, .int .i64 b] 29)).alloc (.cells #[.int .i64 p.x, .int .i64 p.y, .int .i64 p.e] 26)) 26 #[.int .i64 q.x, .int .i64 q.y, .int .i64 q.e]
  rw [show ((w.alloc (.cells #[.int .i64 a, .int .i64 b] 29)).alloc (.cells #[.int .i64 p.x, .int .i64 p.y, .int .i64 p.e] 26)).heap.size = w.heap.size + 2 from by simp] at hxq
  replace h := Below.step h hA
  replace hxc := hxc.kept hA
  replace hxp := hxp.kept hA
  clear hA
  have hA := below_alloc1 (((w.alloc (.cells #[.int .i64 a, .int .i64 b] 29)).alloc (.cells #[.int .i64 p.x, .int .i64 p.y, .int .i64 p.e] 26)).alloc (.cells #[.int .i64 q.x, .int .i64 q.y, .int .i64 q.e] 26)) (.cells #[.int .i64 0, .int .i64 0] 49)
  have hxr := Box.new (((w.alloc (.cells #[.int .i64 a, .int .i64 b] 29)).alloc (.cells #[.int .i64 p.x, .int .i64 p.y, .int .i64 p.e] 26)).alloc (.cells #[.int .i64 q.x, .int .i64 q.y, .int .i64 q.e] 26)) 49 #[.int .i64 0, .int .i64 0]
  rw [show (((w.alloc (.cells #[.int .i64 a, .int .i64 b] 29)).alloc (.cells #[.int .i64 p.x, .int .i64 p.y, .int .i64 p.e] 26)).alloc (.cells #[.int .i64 q.x, .int .i64 q.y, .int .i64 q.e] 26)).heap.size = w.heap.size + 3 from by simp] at hxr
  replace h := Below.step h hA
  replace hxc := hxc.kept hA
  replace hxp := hxp.kept hA
  replace hxq := hxq.kept hA
  clear hA
  obtain ⟨kc0, kc1⟩ := hxc.two
  have lc := hxc.lt
  obtain ⟨kp0, kp1, kp2⟩ := hxp.three
  have lp := hxp.lt
  obtain ⟨kq0, kq1, kq2⟩ := hxq.three
  have lq := hxq.lt
  obtain ⟨kr0, kr1⟩ := hxr.two
  have lr := hxr.lt
  go_enter Tryd.func28, Tryd.ntmps28
  go_wp2_with fail
  refine (isPtS_on a b p _ g).mono ?_
  rintro e w1 ⟨rfl, hb⟩
  replace h := Below.step h hb
  replace hxc := hxc.kept hb
  replace hxp := hxp.kept hb
  replace hxq := hxq.kept hb
  replace hxr := hxr.kept hb
  clear hb kc0 kc1 lc kp0 kp1 kp2 lp kq0 kq1 kq2 lq kr0 kr1 lr
  obtain ⟨kc0, kc1⟩ := hxc.two
  have lc := hxc.lt
  obtain ⟨kp0, kp1, kp2⟩ := hxp.three
  have lp := hxp.lt
  obtain ⟨kq0, kq1, kq2⟩ := hxq.three
  have lq := hxq.lt
  obtain ⟨kr0, kr1⟩ := hxr.two
  have lr := hxr.lt
  go_wp2_with fail
  refine (isPtS_off a b q _ g').mono ?_
  rintro e w2 ⟨rfl, hb⟩
  replace h := Below.step h hb
  replace hxc := hxc.kept hb
  replace hxp := hxp.kept hb
  replace hxq := hxq.kept hb
  replace hxr := hxr.kept hb
  clear hb kc0 kc1 lc kp0 kp1 kp2 lp kq0 kq1 kq2 lq kr0 kr1 lr
  obtain ⟨kc0, kc1⟩ := hxc.two
  have lc := hxc.lt
  obtain ⟨kp0, kp1, kp2⟩ := hxp.three
  have lp := hxp.lt
  obtain ⟨kq0, kq1, kq2⟩ := hxq.three
  have lq := hxq.lt
  obtain ⟨kr0, kr1⟩ := hxr.two
  have lr := hxr.lt
  have fr0 := hxr.free 0
  have fr1 := hxr.free 1
  obtain ⟨sr0, sr1⟩ := ((hxr.set 0 (.int .i64 0)).set 1 (.int .i64 0)).two
  go_wp2_with fail
  refine bodyPost_ret (v := .tuple #[.agg #[.int .i64 0, .int .i64 0], .bool false]) (by simp [results, Tryd.results28, go_sem, sr0, sr1]) (by rfl) ⟨by rfl, ?_⟩
  exact below_sets2 h (by omega) _ _


set_option maxHeartbeats 1000000 in
set_option maxRecDepth 100000 in
theorem slopeS_inf0 (a b : Int) (p q : P3) (w : World) (g : PtG a b p) (g' : PtG a b q) (h : p.e = 0) : Calls Tryd.prog 28 #[.agg #[.int .i64 a, .int .i64 b], .agg #[.int .i64 p.x, .int .i64 p.y, .int .i64 p.e], .agg #[.int .i64 q.x, .int .i64 q.y, .int .i64 q.e]] w (GivesFB w 0 0 false) := by
  have cp := fun W => isPtS_on a b p W g
  have cq := fun W => isPtS_on a b q W g'
  replace cp := Lib.hid cp
  replace cq := Lib.hid cq
  clear g g'
  have e1 : (p.e == 0) = true := by simp [h]
  clear h
  have h := Below.refl w.heap.size w
  have hA := below_alloc1 w (.cells #[.int .i64 a, .int .i64 b] 29)
  have hxc := Box.new w 29 #[.int .i64 a, .int .i64 b]
  replace h := Below.step h hA
  clear hA
  have hA := below_alloc1 (w.alloc (.cells #[.int .i64 a, .int .i64 b] 29)) (.cells #[.int .i64 p.x, .int .i64 p.y, .int .i64 p.e] 26)
  have hxp := Box.new (w.alloc (.cells #[.int .i64 a, .int .i64 b] 29)) 26 #[.int .i64 p.x, .int .i64 p.y, .int .i64 p.e]
  rw [show (w.alloc (.cells #[.int .i64 a, .int .i64 b] 29)).heap.size = w.heap.size + 1 from by simp] at hxp
  replace h := Below.step h hA
  replace hxc := hxc.kept hA
  clear hA
  have hA := below_alloc1 ((w.alloc (.cells #[.int .i64 a, .int .i64 b] 29)).alloc (.cells #[.int .i64 p.x, .int .i64 p.y, .int .i64 p.e] 26)) (.cells #[.int .i64 q.x, .int .i64 q.y, .int .i64 q.e] 26)
  have hxq := Box.new ((w.alloc (.cells #[.int .i64 a, .int .i64 b] 29)).alloc (.cells #[.int .i64 p.x, .int .i64 p.y, .int .i64 p.e] 26)) 26 #[.int .i64 q.x, .int .i64 q.y, .int .i64 q.e]
  rw [show ((w.alloc (.cells #[.int .i64 a, .int .i64 b] 29)).alloc (.cells #[.int .i64 p.x, .int .i64 p.y, .int .i64 p.e] 26)).heap.size = w.heap.size + 2 from by simp] at hxq
  replace h := Below.step h hA
  replace hxc := hxc.kept hA
  replace hxp := hxp.kept hA
  clear hA
  have hA := below_alloc1 (((w.alloc (.cells #[.int .i64 a, .int .i64 b] 29)).alloc (.cells #[.int .i64 p.x, .int .i64 p.y, .int .i64 p.e] 26)).alloc (.cells #[.int .i64 q.x, .int .i64 q.y, .int .i64 q.e] 26)) (.cells #[.int .i64 0, .int .i64 0] 49)
  have hxr := Box.new (((w.alloc (.cells #[.int .i64 a, .int .i64 b] 29)).alloc (.cells #[.int .i64 p.x, .int .i64 p.y, .int .i64 p.e] 26)).alloc (.cells #[.int .i64 q.x, .int .i64 q.y, .int .i64 q.e] 26)) 49 #[.int .i64 0, .int .i64 0]
  rw [show (((w.alloc (.cells #[.int .i64 a, .int .i64 b] 29)).alloc (.cells #[.int .i64 p.x, .int .i64 p.y, .int .i64 p.e] 26)).alloc (.cells #[.int .i64 q.x, .int .i64 q.y, .int .i64 q.e] 26)).heap.size = w.heap.size + 3 from by simp] at hxr
  replace h := Below.step h hA
  replace hxc := hxc.kept hA
  replace hxp := hxp.kept hA
  replace hxq := hxq.kept hA
  clear hA
  obtain ⟨kc0, kc1⟩ := hxc.two
  have lc := hxc.lt
  obtain ⟨kp0, kp1, kp2⟩ := hxp.three
  have lp := hxp.lt
  obtain ⟨kq0, kq1, kq2⟩ := hxq.three
  have lq := hxq.lt
  obtain ⟨kr0, kr1⟩ := hxr.two
  have lr := hxr.lt
  go_enter Tryd.func28, Tryd.ntmps28
  go_wp2_with fail
  refine (cp.out _).mono ?_
  rintro e w1 ⟨rfl, hb⟩
  replace h := Below.step h hb
  replace hxc := hxc.kept hb
  replace hxp := hxp.kept hb
  replace hxq := hxq.kept hb
  replace hxr := hxr.kept hb
  clear hb kc0 kc1 lc kp0 kp1 kp2 lp kq0 kq1 kq2 lq kr0 kr1 lr
  obtain ⟨kc0, kc1⟩ := hxc.two
  have lc := hxc.lt
  obtain ⟨kp0, kp1, kp2⟩ := hxp.three
  have lp := hxp.lt
  obtain ⟨kq0, kq1, kq2⟩ := hxq.three
  have lq := hxq.lt
  obtain ⟨kr0, kr1⟩ := hxr.two
  have lr := hxr.lt
  go_wp2_with fail
  refine (cq.out _).mono ?_
  rintro e w2 ⟨rfl, hb⟩
  replace h := Below.step h hb
  replace hxc := hxc.kept hb
  replace hxp := hxp.kept hb
  replace hxq := hxq.kept hb
  replace hxr := hxr.kept hb
  clear hb kc0 kc1 lc kp0 kp1 kp2 lp kq0 kq1 kq2 lq kr0 kr1 lr
  obtain ⟨kc0, kc1⟩ := hxc.two
  have lc := hxc.lt
  obtain ⟨kp0, kp1, kp2⟩ := hxp.three
  have lp := hxp.lt
  obtain ⟨kq0, kq1, kq2⟩ := hxq.three
  have lq := hxq.lt
  obtain ⟨kr0, kr1⟩ := hxr.two
  have lr := hxr.lt
  have fr0 := hxr.free 0
  have fr1 := hxr.free 1
  obtain ⟨sr0, sr1⟩ := ((hxr.set 0 (.int .i64 0)).set 1 (.int .i64 0)).two
  go_wp2_with fail
  refine bodyPost_ret (v := .tuple #[.agg #[.int .i64 0, .int .i64 0], .bool false]) (by simp [results, Tryd.results28, go_sem, sr0, sr1]) (by rfl) ⟨by rfl, ?_⟩
  exact below_sets2 h (by omega) _ _


set_option maxHeartbeats 1000000 in
set_option maxRecDepth 100000 in
theorem slopeS_inf1 (a b : Int) (p q : P3) (w : World) (g : PtG a b p) (g' : PtG a b q) (h' : p.e ≠ 0) (h : q.e = 0) : Calls Tryd.prog 28 #[.agg #[.int .i64 a, .int .i64 b], .agg #[.int .i64 p.x, .int .i64 p.y, .int .i64 p.e], .agg #[.int .i64 q.x, .int .i64 q.y, .int .i64 q.e]] w (GivesFB w 0 0 false) := by
  have cp := fun W => isPtS_on a b p W g
  have cq := fun W => isPtS_on a b q W g'
  replace cp := Lib.hid cp
  replace cq := Lib.hid cq
  clear g g'
  have e0 : (p.e == 0) = false := by simp [h']
  have e1 : (q.e == 0) = true := by simp [h]
  clear h h'
  have h := Below.refl w.heap.size w
  have hA := below_alloc1 w (.cells #[.int .i64 a, .int .i64 b] 29)
  have hxc := Box.new w 29 #[.int .i64 a, .int .i64 b]
  replace h := Below.step h hA
  clear hA
  have hA := below_alloc1 (w.alloc (.cells #[.int .i64 a, .int .i64 b] 29)) (.cells #[.int .i64 p.x, .int .i64 p.y, .int .i64 p.e] 26)
  have hxp := Box.new (w.alloc (.cells #[.int .i64 a, .int .i64 b] 29)) 26 #[.int .i64 p.x, .int .i64 p.y, .int .i64 p.e]
  rw [show (w.alloc (.cells #[.int .i64 a, .int .i64 b] 29)).heap.size = w.heap.size + 1 from by simp] at hxp
  replace h := Below.step h hA
  replace hxc := hxc.kept hA
  clear hA
  have hA := below_alloc1 ((w.alloc (.cells #[.int .i64 a, .int .i64 b] 29)).alloc (.cells #[.int .i64 p.x, .int .i64 p.y, .int .i64 p.e] 26)) (.cells #[.int .i64 q.x, .int .i64 q.y, .int .i64 q.e] 26)
  have hxq := Box.new ((w.alloc (.cells #[.int .i64 a, .int .i64 b] 29)).alloc (.cells #[.int .i64 p.x, .int .i64 p.y, .int .i64 p.e] 26)) 26 #[.int .i64 q.x, .int .i64 q.y, .int .i64 q.e]
  rw [show ((w.alloc (.cells #[.int .i64 a, .int .i64 b] 29)).alloc (.cells #[.int .i64 p.x, .int .i64 p.y, .int .i64 p.e] 26)).heap.size = w.heap.size + 2 from by simp] at hxq
  replace h := Below.step h hA
  replace hxc := hxc.kept hA
  replace hxp := hxp.kept hA
  clear hA
  have hA := below_alloc1 (((w.alloc (.cells #[.int .i64 a, .int .i64 b] 29)).alloc (.cells #[.int .i64 p.x, .int .i64 p.y, .int .i64 p.e] 26)).alloc (.cells #[.int .i64 q.x, .int .i64 q.y, .int .i64 q.e] 26)) (.cells #[.int .i64 0, .int .i64 0] 49)
  have hxr := Box.new (((w.alloc (.cells #[.int .i64 a, .int .i64 b] 29)).alloc (.cells #[.int .i64 p.x, .int .i64 p.y, .int .i64 p.e] 26)).alloc (.cells #[.int .i64 q.x, .int .i64 q.y, .int .i64 q.e] 26)) 49 #[.int .i64 0, .int .i64 0]
  rw [show (((w.alloc (.cells #[.int .i64 a, .int .i64 b] 29)).alloc (.cells #[.int .i64 p.x, .int .i64 p.y, .int .i64 p.e] 26)).alloc (.cells #[.int .i64 q.x, .int .i64 q.y, .int .i64 q.e] 26)).heap.size = w.heap.size + 3 from by simp] at hxr
  replace h := Below.step h hA
  replace hxc := hxc.kept hA
  replace hxp := hxp.kept hA
  replace hxq := hxq.kept hA
  clear hA
  obtain ⟨kc0, kc1⟩ := hxc.two
  have lc := hxc.lt
  obtain ⟨kp0, kp1, kp2⟩ := hxp.three
  have lp := hxp.lt
  obtain ⟨kq0, kq1, kq2⟩ := hxq.three
  have lq := hxq.lt
  obtain ⟨kr0, kr1⟩ := hxr.two
  have lr := hxr.lt
  go_enter Tryd.func28, Tryd.ntmps28
  go_wp2_with fail
  refine (cp.out _).mono ?_
  rintro e w1 ⟨rfl, hb⟩
  replace h := Below.step h hb
  replace hxc := hxc.kept hb
  replace hxp := hxp.kept hb
  replace hxq := hxq.kept hb
  replace hxr := hxr.kept hb
  clear hb kc0 kc1 lc kp0 kp1 kp2 lp kq0 kq1 kq2 lq kr0 kr1 lr
  obtain ⟨kc0, kc1⟩ := hxc.two
  have lc := hxc.lt
  obtain ⟨kp0, kp1, kp2⟩ := hxp.three
  have lp := hxp.lt
  obtain ⟨kq0, kq1, kq2⟩ := hxq.three
  have lq := hxq.lt
  obtain ⟨kr0, kr1⟩ := hxr.two
  have lr := hxr.lt
  go_wp2_with fail
  refine (cq.out _).mono ?_
  rintro e w2 ⟨rfl, hb⟩
  replace h := Below.step h hb
  replace hxc := hxc.kept hb
  replace hxp := hxp.kept hb
  replace hxq := hxq.kept hb
  replace hxr := hxr.kept hb
  clear hb kc0 kc1 lc kp0 kp1 kp2 lp kq0 kq1 kq2 lq kr0 kr1 lr
  obtain ⟨kc0, kc1⟩ := hxc.two
  have lc := hxc.lt
  obtain ⟨kp0, kp1, kp2⟩ := hxp.three
  have lp := hxp.lt
  obtain ⟨kq0, kq1, kq2⟩ := hxq.three
  have lq := hxq.lt
  obtain ⟨kr0, kr1⟩ := hxr.two
  have lr := hxr.lt
  have fr0 := hxr.free 0
  have fr1 := hxr.free 1
  obtain ⟨sr0, sr1⟩ := ((hxr.set 0 (.int .i64 0)).set 1 (.int .i64 0)).two
  go_wp2_with fail
  refine bodyPost_ret (v := .tuple #[.agg #[.int .i64 0, .int .i64 0], .bool false]) (by simp [results, Tryd.results28, go_sem, sr0, sr1]) (by rfl) ⟨by rfl, ?_⟩
  exact below_sets2 h (by omega) _ _


set_option maxHeartbeats 1000000 in
set_option maxRecDepth 100000 in
theorem slopeS_v (a b : Int) (p q : P3) (w : World) (g : PtG a b p) (g' : PtG a b q) (hp : p.e ≠ 0) (hq : q.e ≠ 0) (c1 : ∀ W : World, Calls Tryd.prog 41 #[.agg #[.int .i64 a, .int .i64 b], .agg #[.int .i64 p.x, .int .i64 p.y, .int .i64 p.e], .agg #[.int .i64 q.x, .int .i64 q.y, .int .i64 q.e]] W (GivesII W 1 0)) : Calls Tryd.prog 28 #[.agg #[.int .i64 a, .int .i64 b], .agg #[.int .i64 p.x, .int .i64 p.y, .int .i64 p.e], .agg #[.int .i64 q.x, .int .i64 q.y, .int .i64 q.e]] w (GivesFB w 0 0 false) := by
  have cp := fun W => isPtS_on a b p W g
  have cq := fun W => isPtS_on a b q W g'
  replace cp := Lib.hid cp
  replace cq := Lib.hid cq
  clear g g'
  have e0 : (p.e == 0) = false := by simp [hp]
  have e1 : (q.e == 0) = false := by simp [hq]
  clear hp hq
  replace c1 := Lib.hid c1
  have h := Below.refl w.heap.size w
  have hA := below_alloc1 w (.cells #[.int .i64 a, .int .i64 b] 29)
  have hxc := Box.new w 29 #[.int .i64 a, .int .i64 b]
  replace h := Below.step h hA
  clear hA
  have hA := below_alloc1 (w.alloc (.cells #[.int .i64 a, .int .i64 b] 29)) (.cells #[.int .i64 p.x, .int .i64 p.y, .int .i64 p.e] 26)
  have hxp := Box.new (w.alloc (.cells #[.int .i64 a, .int .i64 b] 29)) 26 #[.int .i64 p.x, .int .i64 p.y, .int .i64 p.e]
  rw [show (w.alloc (.cells #[.int .i64 a, .int .i64 b] 29)).heap.size = w.heap.size + 1 from by simp] at hxp
  replace h := Below.step h hA
  replace hxc := hxc.kept hA
  clear hA
  have hA := below_alloc1 ((w.alloc (.cells #[.int .i64 a, .int .i64 b] 29)).alloc (.cells #[.int .i64 p.x, .int .i64 p.y, .int .i64 p.e] 26)) (.cells #[.int .i64 q.x, .int .i64 q.y, .int .i64 q.e] 26)
  have hxq := Box.new ((w.alloc (.cells #[.int .i64 a, .int .i64 b] 29)).alloc (.cells #[.int .i64 p.x, .int .i64 p.y, .int .i64 p.e] 26)) 26 #[.int .i64 q.x, .int .i64 q.y, .int .i64 q.e]
  rw [show ((w.alloc (.cells #[.int .i64 a, .int .i64 b] 29)).alloc (.cells #[.int .i64 p.x, .int .i64 p.y, .int .i64 p.e] 26)).heap.size = w.heap.size + 2 from by simp] at hxq
  replace h := Below.step h hA
  replace hxc := hxc.kept hA
  replace hxp := hxp.kept hA
  clear hA
  have hA := below_alloc1 (((w.alloc (.cells #[.int .i64 a, .int .i64 b] 29)).alloc (.cells #[.int .i64 p.x, .int .i64 p.y, .int .i64 p.e] 26)).alloc (.cells #[.int .i64 q.x, .int .i64 q.y, .int .i64 q.e] 26)) (.cells #[.int .i64 0, .int .i64 0] 49)
  have hxr := Box.new (((w.alloc (.cells #[.int .i64 a, .int .i64 b] 29)).alloc (.cells #[.int .i64 p.x, .int .i64 p.y, .int .i64 p.e] 26)).alloc (.cells #[.int .i64 q.x, .int .i64 q.y, .int .i64 q.e] 26)) 49 #[.int .i64 0, .int .i64 0]
  rw [show (((w.alloc (.cells #[.int .i64 a, .int .i64 b] 29)).alloc (.cells #[.int .i64 p.x, .int .i64 p.y, .int .i64 p.e] 26)).alloc (.cells #[.int .i64 q.x, .int .i64 q.y, .int .i64 q.e] 26)).heap.size = w.heap.size + 3 from by simp] at hxr
  replace h := Below.step h hA
  replace hxc := hxc.kept hA
  replace hxp := hxp.kept hA
  replace hxq := hxq.kept hA
  clear hA
  obtain ⟨kc0, kc1⟩ := hxc.two
  have lc := hxc.lt
  obtain ⟨kp0, kp1, kp2⟩ := hxp.three
  have lp := hxp.lt
  obtain ⟨kq0, kq1, kq2⟩ := hxq.three
  have lq := hxq.lt
  obtain ⟨kr0, kr1⟩ := hxr.two
  have lr := hxr.lt
  go_enter Tryd.func28, Tryd.ntmps28
  go_wp2_with fail
  refine (cp.out _).mono ?_
  rintro e w1 ⟨rfl, hb⟩
  replace h := Below.step h hb
  replace hxc := hxc.kept hb
  replace hxp := hxp.kept hb
  replace hxq := hxq.kept hb
  replace hxr := hxr.kept hb
  clear hb kc0 kc1 lc kp0 kp1 kp2 lp kq0 kq1 kq2 lq kr0 kr1 lr
  obtain ⟨kc0, kc1⟩ := hxc.two
  have lc := hxc.lt
  obtain ⟨kp0, kp1, kp2⟩ := hxp.three
  have lp := hxp.lt
  obtain ⟨kq0, kq1, kq2⟩ := hxq.three
  have lq := hxq.lt
  obtain ⟨kr0, kr1⟩ := hxr.two
  have lr := hxr.lt
  go_wp2_with fail
  refine (cq.out _).mono ?_
  rintro e w2 ⟨rfl, hb⟩
  replace h := Below.step h hb
  replace hxc := hxc.kept hb
  replace hxp := hxp.kept hb
  replace hxq := hxq.kept hb
  replace hxr := hxr.kept hb
  clear hb kc0 kc1 lc kp0 kp1 kp2 lp kq0 kq1 kq2 lq kr0 kr1 lr
  obtain ⟨kc0, kc1⟩ := hxc.two
  have lc := hxc.lt
  obtain ⟨kp0, kp1, kp2⟩ := hxp.three
  have lp := hxp.lt
  obtain ⟨kq0, kq1, kq2⟩ := hxq.three
  have lq := hxq.lt
  obtain ⟨kr0, kr1⟩ := hxr.two
  have lr := hxr.lt
  go_wp2_with fail
  refine (c1.out _).mono ?_
  rintro e w3 ⟨rfl, hb⟩
  replace h := Below.step h hb
  replace hxc := hxc.kept hb
  replace hxp := hxp.kept hb
  replace hxq := hxq.kept hb
  replace hxr := hxr.kept hb
  clear hb kc0 kc1 lc kp0 kp1 kp2 lp kq0 kq1 kq2 lq kr0 kr1 lr
  obtain ⟨kc0, kc1⟩ := hxc.two
  have lc := hxc.lt
  obtain ⟨kp0, kp1, kp2⟩ := hxp.three
  have lp := hxp.lt
  obtain ⟨kq0, kq1, kq2⟩ := hxq.three
  have lq := hxq.lt
  obtain ⟨kr0, kr1⟩ := hxr.two
  have lr := hxr.lt
  have fr0 := hxr.free 0
  have fr1 := hxr.free 1
  obtain ⟨sr0, sr1⟩ := ((hxr.set 0 (.int .i64 0)).set 1 (.int .i64 0)).two
  go_wp2_with fail
  refine bodyPost_ret (v := .tuple #[.agg #[.int .i64 0, .int .i64 0], .bool false]) (by simp [results, Tryd.results28, go_sem, sr0, sr1]) (by rfl) ⟨by rfl, ?_⟩
  exact below_sets2 h (by omega) _ _


set_option maxHeartbeats 1000000 in
set_option maxRecDepth 100000 in
theorem slopeS_f (a b : Int) (p q : P3) (w : World) (g : PtG a b p) (g' : PtG a b q) (hp : p.e ≠ 0) (hq : q.e ≠ 0) (N D : Int) (d1 : 1 ≤ D) (c1 : ∀ W : World, Calls Tryd.prog 41 #[.agg #[.int .i64 a, .int .i64 b], .agg #[.int .i64 p.x, .int .i64 p.y, .int .i64 p.e], .agg #[.int .i64 q.x, .int .i64 q.y, .int .i64 q.e]] W (GivesII W N D)) (r s : Int) (ok : Bool) (c2 : ∀ W : World, Calls Tryd.prog 42 #[.int .i64 N, .int .i64 D] W (GivesFB W r s ok)) : Calls Tryd.prog 28 #[.agg #[.int .i64 a, .int .i64 b], .agg #[.int .i64 p.x, .int .i64 p.y, .int .i64 p.e], .agg #[.int .i64 q.x, .int .i64 q.y, .int .i64 q.e]] w (GivesFB w r s ok) := by
  have cp := fun W => isPtS_on a b p W g
  have cq := fun W => isPtS_on a b q W g'
  replace cp := Lib.hid cp
  replace cq := Lib.hid cq
  clear g g'
  have e0 : (p.e == 0) = false := by simp [hp]
  have e1 : (q.e == 0) = false := by simp [hq]
  clear hp hq
  have e2 : (D == 0) = false := by simp; omega
  replace c1 := Lib.hid c1
  replace c2 := Lib.hid c2
  have h := Below.refl w.heap.size w
  have hA := below_alloc1 w (.cells #[.int .i64 a, .int .i64 b] 29)
  have hxc := Box.new w 29 #[.int .i64 a, .int .i64 b]
  replace h := Below.step h hA
  clear hA
  have hA := below_alloc1 (w.alloc (.cells #[.int .i64 a, .int .i64 b] 29)) (.cells #[.int .i64 p.x, .int .i64 p.y, .int .i64 p.e] 26)
  have hxp := Box.new (w.alloc (.cells #[.int .i64 a, .int .i64 b] 29)) 26 #[.int .i64 p.x, .int .i64 p.y, .int .i64 p.e]
  rw [show (w.alloc (.cells #[.int .i64 a, .int .i64 b] 29)).heap.size = w.heap.size + 1 from by simp] at hxp
  replace h := Below.step h hA
  replace hxc := hxc.kept hA
  clear hA
  have hA := below_alloc1 ((w.alloc (.cells #[.int .i64 a, .int .i64 b] 29)).alloc (.cells #[.int .i64 p.x, .int .i64 p.y, .int .i64 p.e] 26)) (.cells #[.int .i64 q.x, .int .i64 q.y, .int .i64 q.e] 26)
  have hxq := Box.new ((w.alloc (.cells #[.int .i64 a, .int .i64 b] 29)).alloc (.cells #[.int .i64 p.x, .int .i64 p.y, .int .i64 p.e] 26)) 26 #[.int .i64 q.x, .int .i64 q.y, .int .i64 q.e]
  rw [show ((w.alloc (.cells #[.int .i64 a, .int .i64 b] 29)).alloc (.cells #[.int .i64 p.x, .int .i64 p.y, .int .i64 p.e] 26)).heap.size = w.heap.size + 2 from by simp] at hxq
  replace h := Below.step h hA
  replace hxc := hxc.kept hA
  replace hxp := hxp.kept hA
  clear hA
  have hA := below_alloc1 (((w.alloc (.cells #[.int .i64 a, .int .i64 b] 29)).alloc (.cells #[.int .i64 p.x, .int .i64 p.y, .int .i64 p.e] 26)).alloc (.cells #[.int .i64 q.x, .int .i64 q.y, .int .i64 q.e] 26)) (.cells #[.int .i64 0, .int .i64 0] 49)
  have hxr := Box.new (((w.alloc (.cells #[.int .i64 a, .int .i64 b] 29)).alloc (.cells #[.int .i64 p.x, .int .i64 p.y, .int .i64 p.e] 26)).alloc (.cells #[.int .i64 q.x, .int .i64 q.y, .int .i64 q.e] 26)) 49 #[.int .i64 0, .int .i64 0]
  rw [show (((w.alloc (.cells #[.int .i64 a, .int .i64 b] 29)).alloc (.cells #[.int .i64 p.x, .int .i64 p.y, .int .i64 p.e] 26)).alloc (.cells #[.int .i64 q.x, .int .i64 q.y, .int .i64 q.e] 26)).heap.size = w.heap.size + 3 from by simp] at hxr
  replace h := Below.step h hA
  replace hxc := hxc.kept hA
  replace hxp := hxp.kept hA
  replace hxq := hxq.kept hA
  clear hA
  obtain ⟨kc0, kc1⟩ := hxc.two
  have lc := hxc.lt
  obtain ⟨kp0, kp1, kp2⟩ := hxp.three
  have lp := hxp.lt
  obtain ⟨kq0, kq1, kq2⟩ := hxq.three
  have lq := hxq.lt
  obtain ⟨kr0, kr1⟩ := hxr.two
  have lr := hxr.lt
  go_enter Tryd.func28, Tryd.ntmps28
  go_wp2_with fail
  refine (cp.out _).mono ?_
  rintro e w1 ⟨rfl, hb⟩
  replace h := Below.step h hb
  replace hxc := hxc.kept hb
  replace hxp := hxp.kept hb
  replace hxq := hxq.kept hb
  replace hxr := hxr.kept hb
  clear hb kc0 kc1 lc kp0 kp1 kp2 lp kq0 kq1 kq2 lq kr0 kr1 lr
  obtain ⟨kc0, kc1⟩ := hxc.two
  have lc := hxc.lt
  obtain ⟨kp0, kp1, kp2⟩ := hxp.three
  have lp := hxp.lt
  obtain ⟨kq0, kq1, kq2⟩ := hxq.three
  have lq := hxq.lt
  obtain ⟨kr0, kr1⟩ := hxr.two
  have lr := hxr.lt
  go_wp2_with fail
  refine (cq.out _).mono ?_
  rintro e w2 ⟨rfl, hb⟩
  replace h := Below.step h hb
  replace hxc := hxc.kept hb
  replace hxp := hxp.kept hb
  replace hxq := hxq.kept hb
  replace hxr := hxr.kept hb
  clear hb kc0 kc1 lc kp0 kp1 kp2 lp kq0 kq1 kq2 lq kr0 kr1 lr
  obtain ⟨kc0, kc1⟩ := hxc.two
  have lc := hxc.lt
  obtain ⟨kp0, kp1, kp2⟩ := hxp.three
  have lp := hxp.lt
  obtain ⟨kq0, kq1, kq2⟩ := hxq.three
  have lq := hxq.lt
  obtain ⟨kr0, kr1⟩ := hxr.two
  have lr := hxr.lt
  go_wp2_with fail
  refine (c1.out _).mono ?_
  rintro e w3 ⟨rfl, hb⟩
  replace h := Below.step h hb
  replace hxc := hxc.kept hb
  replace hxp := hxp.kept hb
  replace hxq := hxq.kept hb
  replace hxr := hxr.kept hb
  clear hb kc0 kc1 lc kp0 kp1 kp2 lp kq0 kq1 kq2 lq kr0 kr1 lr
  obtain ⟨kc0, kc1⟩ := hxc.two
  have lc := hxc.lt
  obtain ⟨kp0, kp1, kp2⟩ := hxp.three
  have lp := hxp.lt
  obtain ⟨kq0, kq1, kq2⟩ := hxq.three
  have lq := hxq.lt
  obtain ⟨kr0, kr1⟩ := hxr.two
  have lr := hxr.lt
  go_wp2_with fail
  refine (c2.out _).mono ?_
  rintro e w4 ⟨rfl, hb⟩
  replace h := Below.step h hb
  replace hxc := hxc.kept hb
  replace hxp := hxp.kept hb
  replace hxq := hxq.kept hb
  replace hxr := hxr.kept hb
  clear hb kc0 kc1 lc kp0 kp1 kp2 lp kq0 kq1 kq2 lq kr0 kr1 lr
  obtain ⟨kc0, kc1⟩ := hxc.two
  have lc := hxc.lt
  obtain ⟨kp0, kp1, kp2⟩ := hxp.three
  have lp := hxp.lt
  obtain ⟨kq0, kq1, kq2⟩ := hxq.three
  have lq := hxq.lt
  obtain ⟨kr0, kr1⟩ := hxr.two
  have lr := hxr.lt
  have fr0 := hxr.free 0
  have fr1 := hxr.free 1
  obtain ⟨sr0, sr1⟩ := ((hxr.set 0 (.int .i64 r)).set 1 (.int .i64 s)).two
  go_wp2_with fail
  refine bodyPost_ret (v := .tuple #[.agg #[.int .i64 r, .int .i64 s], .bool ok]) (by simp [results, Tryd.results28, go_sem, sr0, sr1]) (by rfl) ⟨by rfl, ?_⟩
  exact below_sets2 h (by omega) _ _


theorem low_twice {n d : Int} (h : d ≠ 0) : lowRP (lowP n d) (lowQ n d) = lowRP n d ∧ lowRQ (lowP n d) (lowQ n d) = lowRQ n d ∧ lowB (lowP n d) (lowQ n d) = lowB n d := by
  have hq := lowQ_pos (n := n) h
  have hs : lowS (lowP n d) (lowQ n d) = 1 := by unfold lowS; rw [if_neg (by omega), low_coprime h]; rfl
  have h1 : lowP (lowP n d) (lowQ n d) = lowP n d := by rw [show lowP (lowP n d) (lowQ n d) = lowP n d / lowS (lowP n d) (lowQ n d) from rfl, hs, Int.ediv_one]
  have h2 : lowQ (lowP n d) (lowQ n d) = lowQ n d := by rw [show lowQ (lowP n d) (lowQ n d) = lowQ n d / lowS (lowP n d) (lowQ n d) from rfl, hs, Int.ediv_one]
  have h3 : lowB (lowP n d) (lowQ n d) = lowB n d := by
    unfold lowB
    rw [h1, h2]
    exact decide_eq_decide.2 ⟨fun k => ⟨h, k.2⟩, fun k => ⟨by omega, k.2⟩⟩
  refine ⟨?_, ?_, h3⟩
  · unfold lowRP; rw [h3, h1]
  · unfold lowRQ; rw [h3, h2]
theorem slF_inf {p q : P3} (h : p.e = 0 ∨ q.e = 0) : slF p q = 0 := by
  unfold slF
  split
  · rename_i k; subst k
    have : p.e = 0 := h.elim id id
    rw [this, Int.mul_zero]
  · rcases h with h | h <;> rw [h] <;> simp
theorem low_at0 {n d : Int} (h : d = 0) : lowRP n d = 0 ∧ lowRQ n d = 0 ∧ lowB n d = false := by
  subst h
  have := low_zero (n := n)
  unfold lowRP lowRQ
  rw [this]; exact ⟨rfl, rfl, rfl⟩
theorem slopeI_on {a b : Int} {p q : P3} (w : World) (hL : Lim w) (g : PtG a b p) (g' : PtG a b q) : Calls Tryd.prog 29 #[.agg #[.int .i64 a, .int .i64 b], .agg #[.int .i64 p.x, .int .i64 p.y, .int .i64 p.e], .agg #[.int .i64 q.x, .int .i64 q.y, .int .i64 q.e]] w (GivesFB w (lowRP (slU a p q) (slF p q)) (lowRQ (slU a p q) (slF p q)) (lowB (slU a p q) (slF p q))) := by
  have ha := g.1.1
  have bd := slU_bd ha g.2.bd g'.2.bd
  have c1 : ∀ W : World, Lim W → Calls Tryd.prog 44 #[.int .i64 (slU a p q), .int .i64 (slF p q)] W (GivesFB W (lowRP (slU a p q) (slF p q)) (lowRQ (slU a p q) (slF p q)) (lowB (slU a p q) (slF p q))) := by
    intro W hL
    by_cases h : slF p q = 0
    · obtain ⟨e1, e2, e3⟩ := low_at0 (n := slU a p q) h
      rw [e1, e2, e3, h]; exact fracOfW_zero _ W hL (by omega) (by omega)
    · exact fracOfW_yes _ _ W hL (by omega) (by omega) (by omega) (by omega) h
  generalize lowRP (slU a p q) (slF p q) = r at *
  generalize lowRQ (slU a p q) (slF p q) = s at *
  generalize lowB (slU a p q) (slF p q) = ok at *
  by_cases h : p = q
  · subst h
    rw [show slU a p p = 3 * p.x * p.x + a * (p.e * p.e * (p.e * p.e)) from by rw [show slU a p p = 3 * p.x * p.x + a * p.e * p.e * p.e * p.e from if_pos rfl]; grind, show slF p p = 2 * p.y * p.e from if_pos rfl] at c1
    exact slopeI_t a b p w hL g ha g.2.bd _ rfl r s ok c1
  · rw [show slU a p q = q.y * p.e * p.e * p.e - p.y * q.e * q.e * q.e from if_neg h, show slF p q = p.e * q.e * (q.x * p.e * p.e - p.x * q.e * q.e) from if_neg h] at c1
    exact slopeI_d a b p q w hL g g' ha g.2.bd g'.2.bd h r s ok c1
theorem slopeS_on {a b : Int} {p q : P3} (w : World) (g : PtG a b p) (g' : PtG a b q) : Calls Tryd.prog 28 #[.agg #[.int .i64 a, .int .i64 b], .agg #[.int .i64 p.x, .int .i64 p.y, .int .i64 p.e], .agg #[.int .i64 q.x, .int .i64 q.y, .int .i64 q.e]] w (GivesFB w (lowRP (slU a p q) (slF p q)) (lowRQ (slU a p q) (slF p q)) (lowB (slU a p q) (slF p q))) := by
  by_cases h : slF p q = 0
  · obtain ⟨e1, e2, e3⟩ := low_at0 (n := slU a p q) h
    rw [e1, e2, e3]
    by_cases hp : p.e = 0
    · exact slopeS_inf0 a b p q w g g' hp
    · by_cases hq : q.e = 0
      · exact slopeS_inf1 a b p q w g g' hp hq
      · exact slopeS_v a b p q w g g' hp hq (fun W => ptSlope_zero a b p q W g.1.1 g.2.bd g'.2.bd h)
  · have hp : p.e ≠ 0 := fun k => h (slF_inf (.inl k))
    have hq : q.e ≠ 0 := fun k => h (slF_inf (.inr k))
    have bd := slU_bd g.1.1 g.2.bd g'.2.bd
    have b1 := lowP_le (n := slU a p q) (d := slF p q)
    have b2 := lowQ_le (n := slU a p q) (d := slF p q)
    obtain ⟨e1, e2, e3⟩ := low_twice (n := slU a p q) h
    refine slopeS_f a b p q w g g' hp hq (slN a p q) (slD a p q) (slD_pos h) (fun W => ptSlope_any a b p q W g.1.1 g.2.bd g'.2.bd h) _ _ _ (fun W => ?_)
    rw [← e1, ← e2, ← e3]
    exact frMake_any _ _ W (by unfold slN; omega) (by unfold slN; omega) (by unfold slD; omega) (by unfold slD; omega)
end Go.Proofs.YtabcnkobojkdhaaDoor
