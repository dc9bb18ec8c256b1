/- The program's sumOnLine (written by wip/gen/ptsum.py). -/
import Derived.Test.YtabcnkobojkdhaaDoorPtT
import Derived.Test.YtabcnkobojkdhaaDoorEcAbs
import Derived.Deep.RegionHeld3
import Derived.Deep.DeepCutAuto
import Derived.BigQuiet
namespace Go.Proofs.YtabcnkobojkdhaaDoor
open Go.RowKit Go.Joins

set_option maxHeartbeats 1000000 in
set_option maxRecDepth 100000 in
theorem line_noN (p q : P3) (N D : Int) (w : World) (hL : Lim w) (n0 : -4000000000000 ≤ N ∧ N ≤ 4000000000000) (g : 1392000 < (N.natAbs : Int)) : Calls Tryd.prog 36 #[.agg #[.int .i64 p.x, .int .i64 p.y, .int .i64 p.e], .agg #[.int .i64 q.x, .int .i64 q.y, .int .i64 q.e], .agg #[.int .i64 N, .int .i64 D]] w (GivesPB w 0 0 0 false) := by
  have e0 : decide ((N.natAbs : Int) > 1392000) = true := by simp; omega
  have h := Below.refl w.heap.size w
  have hA := below_alloc1 w (.cells #[.int .i64 p.x, .int .i64 p.y, .int .i64 p.e] 26)
  have hxp := Box.new w 26 #[.int .i64 p.x, .int .i64 p.y, .int .i64 p.e]
  replace h := Below.step h hA
  clear hA
  have hA := below_alloc1 (w.alloc (.cells #[.int .i64 p.x, .int .i64 p.y, .int .i64 p.e] 26)) (.cells #[.int .i64 q.x, .int .i64 q.y, .int .i64 q.e] 26)
  have hxq := Box.new (w.alloc (.cells #[.int .i64 p.x, .int .i64 p.y, .int .i64 p.e] 26)) 26 #[.int .i64 q.x, .int .i64 q.y, .int .i64 q.e]
  rw [show (w.alloc (.cells #[.int .i64 p.x, .int .i64 p.y, .int .i64 p.e] 26)).heap.size = w.heap.size + 1 from by simp] at hxq
  replace h := Below.step h hA
  replace hxp := hxp.kept hA
  clear hA
  have hA := below_alloc1 ((w.alloc (.cells #[.int .i64 p.x, .int .i64 p.y, .int .i64 p.e] 26)).alloc (.cells #[.int .i64 q.x, .int .i64 q.y, .int .i64 q.e] 26)) (.cells #[.int .i64 N, .int .i64 D] 49)
  have hxs := Box.new ((w.alloc (.cells #[.int .i64 p.x, .int .i64 p.y, .int .i64 p.e] 26)).alloc (.cells #[.int .i64 q.x, .int .i64 q.y, .int .i64 q.e] 26)) 49 #[.int .i64 N, .int .i64 D]
  rw [show ((w.alloc (.cells #[.int .i64 p.x, .int .i64 p.y, .int .i64 p.e] 26)).alloc (.cells #[.int .i64 q.x, .int .i64 q.y, .int .i64 q.e] 26)).heap.size = w.heap.size + 2 from by simp] at hxs
  replace h := Below.step h hA
  replace hxp := hxp.kept hA
  replace hxq := hxq.kept hA
  clear hA
  have hA := below_alloc1 (((w.alloc (.cells #[.int .i64 p.x, .int .i64 p.y, .int .i64 p.e] 26)).alloc (.cells #[.int .i64 q.x, .int .i64 q.y, .int .i64 q.e] 26)).alloc (.cells #[.int .i64 N, .int .i64 D] 49)) (.cells #[.int .i64 0, .int .i64 0, .int .i64 0] 26)
  have hxr := Box.new (((w.alloc (.cells #[.int .i64 p.x, .int .i64 p.y, .int .i64 p.e] 26)).alloc (.cells #[.int .i64 q.x, .int .i64 q.y, .int .i64 q.e] 26)).alloc (.cells #[.int .i64 N, .int .i64 D] 49)) 26 #[.int .i64 0, .int .i64 0, .int .i64 0]
  rw [show (((w.alloc (.cells #[.int .i64 p.x, .int .i64 p.y, .int .i64 p.e] 26)).alloc (.cells #[.int .i64 q.x, .int .i64 q.y, .int .i64 q.e] 26)).alloc (.cells #[.int .i64 N, .int .i64 D] 49)).heap.size = w.heap.size + 3 from by simp] at hxr
  replace h := Below.step h hA
  replace hxp := hxp.kept hA
  replace hxq := hxq.kept hA
  replace hxs := hxs.kept hA
  clear hA
  obtain ⟨kp0, kp1, kp2⟩ := hxp.three
  have lp := hxp.lt
  obtain ⟨kq0, kq1, kq2⟩ := hxq.three
  have lq := hxq.lt
  obtain ⟨ks0, ks1⟩ := hxs.two
  have ls := hxs.lt
  obtain ⟨kr0, kr1, kr2⟩ := hxr.three
  have lr := hxr.lt
  replace hL := hL.kept h
  go_enter Tryd.func36, Tryd.ntmps36
  go_wp2_with fail
  go_quiet (fail)
  have hb := below_dr ((((w.alloc (.cells #[.int .i64 p.x, .int .i64 p.y, .int .i64 p.e] 26)).alloc (.cells #[.int .i64 q.x, .int .i64 q.y, .int .i64 q.e] 26)).alloc (.cells #[.int .i64 N, .int .i64 D] 49)).alloc (.cells #[.int .i64 0, .int .i64 0, .int .i64 0] 26)) nq
  generalize World.drewN ((((w.alloc (.cells #[.int .i64 p.x, .int .i64 p.y, .int .i64 p.e] 26)).alloc (.cells #[.int .i64 q.x, .int .i64 q.y, .int .i64 q.e] 26)).alloc (.cells #[.int .i64 N, .int .i64 D] 49)).alloc (.cells #[.int .i64 0, .int .i64 0, .int .i64 0] 26)) nq = w1 at *
  replace h := Below.step h hb
  replace hxp := hxp.kept hb
  replace hxq := hxq.kept hb
  replace hxs := hxs.kept hb
  replace hxr := hxr.kept hb
  replace hL := hL.kept hb
  clear hb kp0 kp1 kp2 lp kq0 kq1 kq2 lq ks0 ks1 ls kr0 kr1 kr2 lr
  obtain ⟨kp0, kp1, kp2⟩ := hxp.three
  have lp := hxp.lt
  obtain ⟨kq0, kq1, kq2⟩ := hxq.three
  have lq := hxq.lt
  obtain ⟨ks0, ks1⟩ := hxs.two
  have ls := hxs.lt
  obtain ⟨kr0, kr1, kr2⟩ := hxr.three
  have lr := hxr.lt
  have fr0 := hxr.free 0
  have fr1 := hxr.free 1
  have fr2 := hxr.free 2
  obtain ⟨sr0, sr1, sr2⟩ := (((hxr.set 0 (.int .i64 0)).set 1 (.int .i64 0)).set 2 (.int .i64 0)).three
  go_wp2_with fail
  refine bodyPost_ret (v := .tuple #[.agg #[.int .i64 0, .int .i64 0, .int .i64 0], .bool false]) (by simp [results, Tryd.results36, go_sem, sr0, sr1, sr2]) (by rfl) ⟨by rfl, ?_⟩
  exact below_sets3 h (by omega) _ _ _


set_option maxHeartbeats 1000000 in
set_option maxRecDepth 100000 in
theorem line_noD (p q : P3) (N D : Int) (w : World) (hL : Lim w) (n0 : -1392000 ≤ N ∧ N ≤ 1392000) (g : 8000 < D) : Calls Tryd.prog 36 #[.agg #[.int .i64 p.x, .int .i64 p.y, .int .i64 p.e], .agg #[.int .i64 q.x, .int .i64 q.y, .int .i64 q.e], .agg #[.int .i64 N, .int .i64 D]] w (GivesPB w 0 0 0 false) := by
  have e0 : decide ((N.natAbs : Int) > 1392000) = false := by simp; omega
  have h := Below.refl w.heap.size w
  have hA := below_alloc1 w (.cells #[.int .i64 p.x, .int .i64 p.y, .int .i64 p.e] 26)
  have hxp := Box.new w 26 #[.int .i64 p.x, .int .i64 p.y, .int .i64 p.e]
  replace h := Below.step h hA
  clear hA
  have hA := below_alloc1 (w.alloc (.cells #[.int .i64 p.x, .int .i64 p.y, .int .i64 p.e] 26)) (.cells #[.int .i64 q.x, .int .i64 q.y, .int .i64 q.e] 26)
  have hxq := Box.new (w.alloc (.cells #[.int .i64 p.x, .int .i64 p.y, .int .i64 p.e] 26)) 26 #[.int .i64 q.x, .int .i64 q.y, .int .i64 q.e]
  rw [show (w.alloc (.cells #[.int .i64 p.x, .int .i64 p.y, .int .i64 p.e] 26)).heap.size = w.heap.size + 1 from by simp] at hxq
  replace h := Below.step h hA
  replace hxp := hxp.kept hA
  clear hA
  have hA := below_alloc1 ((w.alloc (.cells #[.int .i64 p.x, .int .i64 p.y, .int .i64 p.e] 26)).alloc (.cells #[.int .i64 q.x, .int .i64 q.y, .int .i64 q.e] 26)) (.cells #[.int .i64 N, .int .i64 D] 49)
  have hxs := Box.new ((w.alloc (.cells #[.int .i64 p.x, .int .i64 p.y, .int .i64 p.e] 26)).alloc (.cells #[.int .i64 q.x, .int .i64 q.y, .int .i64 q.e] 26)) 49 #[.int .i64 N, .int .i64 D]
  rw [show ((w.alloc (.cells #[.int .i64 p.x, .int .i64 p.y, .int .i64 p.e] 26)).alloc (.cells #[.int .i64 q.x, .int .i64 q.y, .int .i64 q.e] 26)).heap.size = w.heap.size + 2 from by simp] at hxs
  replace h := Below.step h hA
  replace hxp := hxp.kept hA
  replace hxq := hxq.kept hA
  clear hA
  have hA := below_alloc1 (((w.alloc (.cells #[.int .i64 p.x, .int .i64 p.y, .int .i64 p.e] 26)).alloc (.cells #[.int .i64 q.x, .int .i64 q.y, .int .i64 q.e] 26)).alloc (.cells #[.int .i64 N, .int .i64 D] 49)) (.cells #[.int .i64 0, .int .i64 0, .int .i64 0] 26)
  have hxr := Box.new (((w.alloc (.cells #[.int .i64 p.x, .int .i64 p.y, .int .i64 p.e] 26)).alloc (.cells #[.int .i64 q.x, .int .i64 q.y, .int .i64 q.e] 26)).alloc (.cells #[.int .i64 N, .int .i64 D] 49)) 26 #[.int .i64 0, .int .i64 0, .int .i64 0]
  rw [show (((w.alloc (.cells #[.int .i64 p.x, .int .i64 p.y, .int .i64 p.e] 26)).alloc (.cells #[.int .i64 q.x, .int .i64 q.y, .int .i64 q.e] 26)).alloc (.cells #[.int .i64 N, .int .i64 D] 49)).heap.size = w.heap.size + 3 from by simp] at hxr
  replace h := Below.step h hA
  replace hxp := hxp.kept hA
  replace hxq := hxq.kept hA
  replace hxs := hxs.kept hA
  clear hA
  obtain ⟨kp0, kp1, kp2⟩ := hxp.three
  have lp := hxp.lt
  obtain ⟨kq0, kq1, kq2⟩ := hxq.three
  have lq := hxq.lt
  obtain ⟨ks0, ks1⟩ := hxs.two
  have ls := hxs.lt
  obtain ⟨kr0, kr1, kr2⟩ := hxr.three
  have lr := hxr.lt
  replace hL := hL.kept h
  go_enter Tryd.func36, Tryd.ntmps36
  go_wp2_with fail
  go_quiet (fail)
  have hb := below_dr ((((w.alloc (.cells #[.int .i64 p.x, .int .i64 p.y, .int .i64 p.e] 26)).alloc (.cells #[.int .i64 q.x, .int .i64 q.y, .int .i64 q.e] 26)).alloc (.cells #[.int .i64 N, .int .i64 D] 49)).alloc (.cells #[.int .i64 0, .int .i64 0, .int .i64 0] 26)) nq
  generalize World.drewN ((((w.alloc (.cells #[.int .i64 p.x, .int .i64 p.y, .int .i64 p.e] 26)).alloc (.cells #[.int .i64 q.x, .int .i64 q.y, .int .i64 q.e] 26)).alloc (.cells #[.int .i64 N, .int .i64 D] 49)).alloc (.cells #[.int .i64 0, .int .i64 0, .int .i64 0] 26)) nq = w1 at *
  replace h := Below.step h hb
  replace hxp := hxp.kept hb
  replace hxq := hxq.kept hb
  replace hxs := hxs.kept hb
  replace hxr := hxr.kept hb
  replace hL := hL.kept hb
  clear hb kp0 kp1 kp2 lp kq0 kq1 kq2 lq ks0 ks1 ls kr0 kr1 kr2 lr
  obtain ⟨kp0, kp1, kp2⟩ := hxp.three
  have lp := hxp.lt
  obtain ⟨kq0, kq1, kq2⟩ := hxq.three
  have lq := hxq.lt
  obtain ⟨ks0, ks1⟩ := hxs.two
  have ls := hxs.lt
  obtain ⟨kr0, kr1, kr2⟩ := hxr.three
  have lr := hxr.lt
  have fr0 := hxr.free 0
  have fr1 := hxr.free 1
  have fr2 := hxr.free 2
  obtain ⟨sr0, sr1, sr2⟩ := (((hxr.set 0 (.int .i64 0)).set 1 (.int .i64 0)).set 2 (.int .i64 0)).three
  go_wp2_with fail
  refine bodyPost_ret (v := .tuple #[.agg #[.int .i64 0, .int .i64 0, .int .i64 0], .bool false]) (by simp [results, Tryd.results36, go_sem, sr0, sr1, sr2]) (by rfl) ⟨by rfl, ?_⟩
  exact below_sets3 h (by omega) _ _ _


set_option maxHeartbeats 4000000 in
set_option maxRecDepth 100000 in
theorem line_no1 (p q : P3) (N D : Int) (w : World) (hL : Lim w) (n1 : -1392000 ≤ N) (n2 : N ≤ 1392000) (d1 : 1 ≤ D) (d2 : D ≤ 8000) (fp : (-10000 ≤ p.x ∧ p.x ≤ 10000) ∧ (1 ≤ p.e ∧ p.e ≤ 20)) (fq : (-10000 ≤ q.x ∧ q.x ≤ 10000) ∧ (1 ≤ q.e ∧ q.e ≤ 20)) (X Q u E : Int) (ok ok2 : Bool) (c2 : ∀ W : World, Lim W → Calls Tryd.prog 53 #[.int .i64 (N * N * (p.e * p.e) * (q.e * q.e) - D * D * (p.x * (q.e * q.e) + q.x * (p.e * p.e))), .int .i64 (D * D * (p.e * p.e) * (q.e * q.e))] W (GivesFB W X Q ok)) (c3 : ∀ W : World, Calls Tryd.prog 54 #[.agg #[.int .i64 X, .int .i64 Q]] W (GivesPB W u 0 E ok2)) (h : ok = false) : Calls Tryd.prog 36 #[.agg #[.int .i64 p.x, .int .i64 p.y, .int .i64 p.e], .agg #[.int .i64 q.x, .int .i64 q.y, .int .i64 q.e], .agg #[.int .i64 N, .int .i64 D]] w (GivesPB w 0 0 0 false) := by
  subst h
  have e0 : ¬ (N.natAbs : Int) > 1392000 := by omega
  have e0b : ¬ D > 8000 := by omega
  replace c2 := Lib.hid c2
  replace c3 := Lib.hid c3
  obtain ⟨⟨a1, a2⟩, ⟨a3, a4⟩, ⟨a5, a6⟩, ⟨a7, a8⟩, ⟨b1, b2⟩, ⟨b3, b4⟩, ⟨b5, b6⟩, ⟨b7, b8⟩, ⟨u1, u2⟩, ⟨u3, u4⟩, ⟨u5, u6⟩, ⟨u7, u8⟩⟩ := t_bd (n := N) fp fq ⟨d1, d2⟩ (by omega)
  have ee1 := (ptE_bd fp.2).1
  have ee2 := (ptE_bd fq.2).1
  obtain ⟨⟨x1, x2⟩, ⟨x3, x4⟩⟩ := fp
  obtain ⟨⟨y1, y2⟩, ⟨y3, y4⟩⟩ := fq
  have v1 := fr_mul_bd (a := p.x) (b := q.e * q.e) (M := 10000) (N := 400) x1 x2 (by omega) (by omega)
  have v2 := fr_mul_bd (a := q.x) (b := p.e * p.e) (M := 10000) (N := 400) y1 y2 (by omega) (by omega)
  have v3 := fr_mul_bd (a := D * D) (b := p.x * (q.e * q.e) + q.x * (p.e * p.e)) (M := 64000000) (N := 8000000) (by omega) (by omega) (by omega) (by omega)
  have h := Below.refl w.heap.size w
  have hA := below_alloc1 w (.cells #[.int .i64 p.x, .int .i64 p.y, .int .i64 p.e] 26)
  have hxp := Box.new w 26 #[.int .i64 p.x, .int .i64 p.y, .int .i64 p.e]
  replace h := Below.step h hA
  clear hA
  have hA := below_alloc1 (w.alloc (.cells #[.int .i64 p.x, .int .i64 p.y, .int .i64 p.e] 26)) (.cells #[.int .i64 q.x, .int .i64 q.y, .int .i64 q.e] 26)
  have hxq := Box.new (w.alloc (.cells #[.int .i64 p.x, .int .i64 p.y, .int .i64 p.e] 26)) 26 #[.int .i64 q.x, .int .i64 q.y, .int .i64 q.e]
  rw [show (w.alloc (.cells #[.int .i64 p.x, .int .i64 p.y, .int .i64 p.e] 26)).heap.size = w.heap.size + 1 from by simp] at hxq
  replace h := Below.step h hA
  replace hxp := hxp.kept hA
  clear hA
  have hA := below_alloc1 ((w.alloc (.cells #[.int .i64 p.x, .int .i64 p.y, .int .i64 p.e] 26)).alloc (.cells #[.int .i64 q.x, .int .i64 q.y, .int .i64 q.e] 26)) (.cells #[.int .i64 N, .int .i64 D] 49)
  have hxs := Box.new ((w.alloc (.cells #[.int .i64 p.x, .int .i64 p.y, .int .i64 p.e] 26)).alloc (.cells #[.int .i64 q.x, .int .i64 q.y, .int .i64 q.e] 26)) 49 #[.int .i64 N, .int .i64 D]
  rw [show ((w.alloc (.cells #[.int .i64 p.x, .int .i64 p.y, .int .i64 p.e] 26)).alloc (.cells #[.int .i64 q.x, .int .i64 q.y, .int .i64 q.e] 26)).heap.size = w.heap.size + 2 from by simp] at hxs
  replace h := Below.step h hA
  replace hxp := hxp.kept hA
  replace hxq := hxq.kept hA
  clear hA
  have hA := below_alloc1 (((w.alloc (.cells #[.int .i64 p.x, .int .i64 p.y, .int .i64 p.e] 26)).alloc (.cells #[.int .i64 q.x, .int .i64 q.y, .int .i64 q.e] 26)).alloc (.cells #[.int .i64 N, .int .i64 D] 49)) (.cells #[.int .i64 0, .int .i64 0, .int .i64 0] 26)
  have hxr := Box.new (((w.alloc (.cells #[.int .i64 p.x, .int .i64 p.y, .int .i64 p.e] 26)).alloc (.cells #[.int .i64 q.x, .int .i64 q.y, .int .i64 q.e] 26)).alloc (.cells #[.int .i64 N, .int .i64 D] 49)) 26 #[.int .i64 0, .int .i64 0, .int .i64 0]
  rw [show (((w.alloc (.cells #[.int .i64 p.x, .int .i64 p.y, .int .i64 p.e] 26)).alloc (.cells #[.int .i64 q.x, .int .i64 q.y, .int .i64 q.e] 26)).alloc (.cells #[.int .i64 N, .int .i64 D] 49)).heap.size = w.heap.size + 3 from by simp] at hxr
  replace h := Below.step h hA
  replace hxp := hxp.kept hA
  replace hxq := hxq.kept hA
  replace hxs := hxs.kept hA
  clear hA
  obtain ⟨kp0, kp1, kp2⟩ := hxp.three
  have lp := hxp.lt
  obtain ⟨kq0, kq1, kq2⟩ := hxq.three
  have lq := hxq.lt
  obtain ⟨ks0, ks1⟩ := hxs.two
  have ls := hxs.lt
  obtain ⟨kr0, kr1, kr2⟩ := hxr.three
  have lr := hxr.lt
  replace hL := hL.kept h
  go_enter Tryd.func36, Tryd.ntmps36
  go_wp2_with fail
  go_quiet (fail)
  have hb := below_dr ((((w.alloc (.cells #[.int .i64 p.x, .int .i64 p.y, .int .i64 p.e] 26)).alloc (.cells #[.int .i64 q.x, .int .i64 q.y, .int .i64 q.e] 26)).alloc (.cells #[.int .i64 N, .int .i64 D] 49)).alloc (.cells #[.int .i64 0, .int .i64 0, .int .i64 0] 26)) nq
  generalize World.drewN ((((w.alloc (.cells #[.int .i64 p.x, .int .i64 p.y, .int .i64 p.e] 26)).alloc (.cells #[.int .i64 q.x, .int .i64 q.y, .int .i64 q.e] 26)).alloc (.cells #[.int .i64 N, .int .i64 D] 49)).alloc (.cells #[.int .i64 0, .int .i64 0, .int .i64 0] 26)) nq = w1 at *
  replace h := Below.step h hb
  replace hxp := hxp.kept hb
  replace hxq := hxq.kept hb
  replace hxs := hxs.kept hb
  replace hxr := hxr.kept hb
  replace hL := hL.kept hb
  clear hb kp0 kp1 kp2 lp kq0 kq1 kq2 lq ks0 ks1 ls kr0 kr1 kr2 lr
  obtain ⟨kp0, kp1, kp2⟩ := hxp.three
  have lp := hxp.lt
  obtain ⟨kq0, kq1, kq2⟩ := hxq.three
  have lq := hxq.lt
  obtain ⟨ks0, ks1⟩ := hxs.two
  have ls := hxs.lt
  obtain ⟨kr0, kr1, kr2⟩ := hxr.three
  have lr := hxr.lt
  go_wp2_with fail
  go_quiet (fail)
  have hb := below_dr w1 nq
  generalize World.drewN w1 nq = w2 at *
  replace h := Below.step h hb
  replace hxp := hxp.kept hb
  replace hxq := hxq.kept hb
  replace hxs := hxs.kept hb
  replace hxr := hxr.kept hb
  replace hL := hL.kept hb
  clear hb kp0 kp1 kp2 lp kq0 kq1 kq2 lq ks0 ks1 ls kr0 kr1 kr2 lr
  obtain ⟨kp0, kp1, kp2⟩ := hxp.three
  have lp := hxp.lt
  obtain ⟨kq0, kq1, kq2⟩ := hxq.three
  have lq := hxq.lt
  obtain ⟨ks0, ks1⟩ := hxs.two
  have ls := hxs.lt
  obtain ⟨kr0, kr1, kr2⟩ := hxr.three
  have lr := hxr.lt
  go_wp2_with fail
  refine (c2.out _ hL).mono ?_
  rintro e w3 ⟨rfl, hb⟩
  replace h := Below.step h hb
  replace hxp := hxp.kept hb
  replace hxq := hxq.kept hb
  replace hxs := hxs.kept hb
  replace hxr := hxr.kept hb
  replace hL := hL.kept hb
  clear hb kp0 kp1 kp2 lp kq0 kq1 kq2 lq ks0 ks1 ls kr0 kr1 kr2 lr
  obtain ⟨kp0, kp1, kp2⟩ := hxp.three
  have lp := hxp.lt
  obtain ⟨kq0, kq1, kq2⟩ := hxq.three
  have lq := hxq.lt
  obtain ⟨ks0, ks1⟩ := hxs.two
  have ls := hxs.lt
  obtain ⟨kr0, kr1, kr2⟩ := hxr.three
  have lr := hxr.lt
  go_wp2_with fail
  have hA := below_alloc1 w3 (.cells #[.int .i64 X, .int .i64 Q] 49)
  have hxx := Box.new w3 49 #[.int .i64 X, .int .i64 Q]
  replace h := Below.step h hA
  replace hxp := hxp.kept hA
  replace hxq := hxq.kept hA
  replace hxs := hxs.kept hA
  replace hxr := hxr.kept hA
  replace hL := hL.kept hA
  clear hA kp0 kp1 kp2 lp kq0 kq1 kq2 lq ks0 ks1 ls kr0 kr1 kr2 lr
  generalize w3.alloc (.cells #[.int .i64 X, .int .i64 Q] 49) = w4 at *
  generalize w3.heap.size = gx at hxx ⊢
  obtain ⟨kp0, kp1, kp2⟩ := hxp.three
  have lp := hxp.lt
  obtain ⟨kq0, kq1, kq2⟩ := hxq.three
  have lq := hxq.lt
  obtain ⟨ks0, ks1⟩ := hxs.two
  have ls := hxs.lt
  obtain ⟨kr0, kr1, kr2⟩ := hxr.three
  have lr := hxr.lt
  obtain ⟨kx0, kx1⟩ := hxx.two
  have lx := hxx.lt
  go_wp2_with fail
  refine (c3.out _).mono ?_
  rintro e w5 ⟨rfl, hb⟩
  replace h := Below.step h hb
  replace hxp := hxp.kept hb
  replace hxq := hxq.kept hb
  replace hxs := hxs.kept hb
  replace hxr := hxr.kept hb
  replace hxx := hxx.kept hb
  replace hL := hL.kept hb
  clear hb kp0 kp1 kp2 lp kq0 kq1 kq2 lq ks0 ks1 ls kr0 kr1 kr2 lr kx0 kx1 lx
  obtain ⟨kp0, kp1, kp2⟩ := hxp.three
  have lp := hxp.lt
  obtain ⟨kq0, kq1, kq2⟩ := hxq.three
  have lq := hxq.lt
  obtain ⟨ks0, ks1⟩ := hxs.two
  have ls := hxs.lt
  obtain ⟨kr0, kr1, kr2⟩ := hxr.three
  have lr := hxr.lt
  obtain ⟨kx0, kx1⟩ := hxx.two
  have lx := hxx.lt
  have fr0 := hxr.free 0
  have fr1 := hxr.free 1
  have fr2 := hxr.free 2
  obtain ⟨sr0, sr1, sr2⟩ := ((((hxr.set 0 (.int .i64 0)).set 1 (.int .i64 0)).set 2 (.int .i64 0)).kept (below_alloc1 _ (.cells #[.int .i64 u, .int .i64 0, .int .i64 E] 26))).three
  go_wp2_with fail
  refine bodyPost_ret (v := .tuple #[.agg #[.int .i64 0, .int .i64 0, .int .i64 0], .bool false]) (by simp [results, Tryd.results36, go_sem, sr0, sr1, sr2]) (by rfl) ⟨by rfl, ?_⟩
  exact Below.step (below_sets3 h (by omega) _ _ _) (below_alloc1 _ _)


set_option maxHeartbeats 4000000 in
set_option maxRecDepth 100000 in
theorem line_no2 (p q : P3) (N D : Int) (w : World) (hL : Lim w) (n1 : -1392000 ≤ N) (n2 : N ≤ 1392000) (d1 : 1 ≤ D) (d2 : D ≤ 8000) (fp : (-10000 ≤ p.x ∧ p.x ≤ 10000) ∧ (1 ≤ p.e ∧ p.e ≤ 20)) (fq : (-10000 ≤ q.x ∧ q.x ≤ 10000) ∧ (1 ≤ q.e ∧ q.e ≤ 20)) (X Q u E : Int) (ok ok2 : Bool) (c2 : ∀ W : World, Lim W → Calls Tryd.prog 53 #[.int .i64 (N * N * (p.e * p.e) * (q.e * q.e) - D * D * (p.x * (q.e * q.e) + q.x * (p.e * p.e))), .int .i64 (D * D * (p.e * p.e) * (q.e * q.e))] W (GivesFB W X Q ok)) (c3 : ∀ W : World, Calls Tryd.prog 54 #[.agg #[.int .i64 X, .int .i64 Q]] W (GivesPB W u 0 E ok2)) (h : ok = true) (h2 : ok2 = false) : Calls Tryd.prog 36 #[.agg #[.int .i64 p.x, .int .i64 p.y, .int .i64 p.e], .agg #[.int .i64 q.x, .int .i64 q.y, .int .i64 q.e], .agg #[.int .i64 N, .int .i64 D]] w (GivesPB w 0 0 0 false) := by
  subst h h2
  have e0 : ¬ (N.natAbs : Int) > 1392000 := by omega
  have e0b : ¬ D > 8000 := by omega
  replace c2 := Lib.hid c2
  replace c3 := Lib.hid c3
  obtain ⟨⟨a1, a2⟩, ⟨a3, a4⟩, ⟨a5, a6⟩, ⟨a7, a8⟩, ⟨b1, b2⟩, ⟨b3, b4⟩, ⟨b5, b6⟩, ⟨b7, b8⟩, ⟨u1, u2⟩, ⟨u3, u4⟩, ⟨u5, u6⟩, ⟨u7, u8⟩⟩ := t_bd (n := N) fp fq ⟨d1, d2⟩ (by omega)
  have ee1 := (ptE_bd fp.2).1
  have ee2 := (ptE_bd fq.2).1
  obtain ⟨⟨x1, x2⟩, ⟨x3, x4⟩⟩ := fp
  obtain ⟨⟨y1, y2⟩, ⟨y3, y4⟩⟩ := fq
  have v1 := fr_mul_bd (a := p.x) (b := q.e * q.e) (M := 10000) (N := 400) x1 x2 (by omega) (by omega)
  have v2 := fr_mul_bd (a := q.x) (b := p.e * p.e) (M := 10000) (N := 400) y1 y2 (by omega) (by omega)
  have v3 := fr_mul_bd (a := D * D) (b := p.x * (q.e * q.e) + q.x * (p.e * p.e)) (M := 64000000) (N := 8000000) (by omega) (by omega) (by omega) (by omega)
  have h := Below.refl w.heap.size w
  have hA := below_alloc1 w (.cells #[.int .i64 p.x, .int .i64 p.y, .int .i64 p.e] 26)
  have hxp := Box.new w 26 #[.int .i64 p.x, .int .i64 p.y, .int .i64 p.e]
  replace h := Below.step h hA
  clear hA
  have hA := below_alloc1 (w.alloc (.cells #[.int .i64 p.x, .int .i64 p.y, .int .i64 p.e] 26)) (.cells #[.int .i64 q.x, .int .i64 q.y, .int .i64 q.e] 26)
  have hxq := Box.new (w.alloc (.cells #[.int .i64 p.x, .int .i64 p.y, .int .i64 p.e] 26)) 26 #[.int .i64 q.x, .int .i64 q.y, .int .i64 q.e]
  rw [show (w.alloc (.cells #[.int .i64 p.x, .int .i64 p.y, .int .i64 p.e] 26)).heap.size = w.heap.size + 1 from by simp] at hxq
  replace h := Below.step h hA
  replace hxp := hxp.kept hA
  clear hA
  have hA := below_alloc1 ((w.alloc (.cells #[.int .i64 p.x, .int .i64 p.y, .int .i64 p.e] 26)).alloc (.cells #[.int .i64 q.x, .int .i64 q.y, .int .i64 q.e] 26)) (.cells #[.int .i64 N, .int .i64 D] 49)
  have hxs := Box.new ((w.alloc (.cells #[.int .i64 p.x, .int .i64 p.y, .int .i64 p.e] 26)).alloc (.cells #[.int .i64 q.x, .int .i64 q.y, .int .i64 q.e] 26)) 49 #[.int .i64 N, .int .i64 D]
  rw [show ((w.alloc (.cells #[.int .i64 p.x, .int .i64 p.y, .int .i64 p.e] 26)).alloc (.cells #[.int .i64 q.x, .int .i64 q.y, .int .i64 q.e] 26)).heap.size = w.heap.size + 2 from by simp] at hxs
  replace h := Below.step h hA
  replace hxp := hxp.kept hA
  replace hxq := hxq.kept hA
  clear hA
  have hA := below_alloc1 (((w.alloc (.cells #[.int .i64 p.x, .int .i64 p.y, .int .i64 p.e] 26)).alloc (.cells #[.int .i64 q.x, .int .i64 q.y, .int .i64 q.e] 26)).alloc (.cells #[.int .i64 N, .int .i64 D] 49)) (.cells #[.int .i64 0, .int .i64 0, .int .i64 0] 26)
  have hxr := Box.new (((w.alloc (.cells #[.int .i64 p.x, .int .i64 p.y, .int .i64 p.e] 26)).alloc (.cells #[.int .i64 q.x, .int .i64 q.y, .int .i64 q.e] 26)).alloc (.cells #[.int .i64 N, .int .i64 D] 49)) 26 #[.int .i64 0, .int .i64 0, .int .i64 0]
  rw [show (((w.alloc (.cells #[.int .i64 p.x, .int .i64 p.y, .int .i64 p.e] 26)).alloc (.cells #[.int .i64 q.x, .int .i64 q.y, .int .i64 q.e] 26)).alloc (.cells #[.int .i64 N, .int .i64 D] 49)).heap.size = w.heap.size + 3 from by simp] at hxr
  replace h := Below.step h hA
  replace hxp := hxp.kept hA
  replace hxq := hxq.kept hA
  replace hxs := hxs.kept hA
  clear hA
  obtain ⟨kp0, kp1, kp2⟩ := hxp.three
  have lp := hxp.lt
  obtain ⟨kq0, kq1, kq2⟩ := hxq.three
  have lq := hxq.lt
  obtain ⟨ks0, ks1⟩ := hxs.two
  have ls := hxs.lt
  obtain ⟨kr0, kr1, kr2⟩ := hxr.three
  have lr := hxr.lt
  replace hL := hL.kept h
  go_enter Tryd.func36, Tryd.ntmps36
  go_wp2_with fail
  go_quiet (fail)
  have hb := below_dr ((((w.alloc (.cells #[.int .i64 p.x, .int .i64 p.y, .int .i64 p.e] 26)).alloc (.cells #[.int .i64 q.x, .int .i64 q.y, .int .i64 q.e] 26)).alloc (.cells #[.int .i64 N, .int .i64 D] 49)).alloc (.cells #[.int .i64 0, .int .i64 0, .int .i64 0] 26)) nq
  generalize World.drewN ((((w.alloc (.cells #[.int .i64 p.x, .int .i64 p.y, .int .i64 p.e] 26)).alloc (.cells #[.int .i64 q.x, .int .i64 q.y, .int .i64 q.e] 26)).alloc (.cells #[.int .i64 N, .int .i64 D] 49)).alloc (.cells #[.int .i64 0, .int .i64 0, .int .i64 0] 26)) nq = w1 at *
  replace h := Below.step h hb
  replace hxp := hxp.kept hb
  replace hxq := hxq.kept hb
  replace hxs := hxs.kept hb
  replace hxr := hxr.kept hb
  replace hL := hL.kept hb
  clear hb kp0 kp1 kp2 lp kq0 kq1 kq2 lq ks0 ks1 ls kr0 kr1 kr2 lr
  obtain ⟨kp0, kp1, kp2⟩ := hxp.three
  have lp := hxp.lt
  obtain ⟨kq0, kq1, kq2⟩ := hxq.three
  have lq := hxq.lt
  obtain ⟨ks0, ks1⟩ := hxs.two
  have ls := hxs.lt
  obtain ⟨kr0, kr1, kr2⟩ := hxr.three
  have lr := hxr.lt
  go_wp2_with fail
  go_quiet (fail)
  have hb := below_dr w1 nq
  generalize World.drewN w1 nq = w2 at *
  replace h := Below.step h hb
  replace hxp := hxp.kept hb
  replace hxq := hxq.kept hb
  replace hxs := hxs.kept hb
  replace hxr := hxr.kept hb
  replace hL := hL.kept hb
  clear hb kp0 kp1 kp2 lp kq0 kq1 kq2 lq ks0 ks1 ls kr0 kr1 kr2 lr
  obtain ⟨kp0, kp1, kp2⟩ := hxp.three
  have lp := hxp.lt
  obtain ⟨kq0, kq1, kq2⟩ := hxq.three
  have lq := hxq.lt
  obtain ⟨ks0, ks1⟩ := hxs.two
  have ls := hxs.lt
  obtain ⟨kr0, kr1, kr2⟩ := hxr.three
  have lr := hxr.lt
  go_wp2_with fail
  refine (c2.out _ hL).mono ?_
  rintro e w3 ⟨rfl, hb⟩
  replace h := Below.step h hb
  replace hxp := hxp.kept hb
  replace hxq := hxq.kept hb
  replace hxs := hxs.kept hb
  replace hxr := hxr.kept hb
  replace hL := hL.kept hb
  clear hb kp0 kp1 kp2 lp kq0 kq1 kq2 lq ks0 ks1 ls kr0 kr1 kr2 lr
  obtain ⟨kp0, kp1, kp2⟩ := hxp.three
  have lp := hxp.lt
  obtain ⟨kq0, kq1, kq2⟩ := hxq.three
  have lq := hxq.lt
  obtain ⟨ks0, ks1⟩ := hxs.two
  have ls := hxs.lt
  obtain ⟨kr0, kr1, kr2⟩ := hxr.three
  have lr := hxr.lt
  go_wp2_with fail
  have hA := below_alloc1 w3 (.cells #[.int .i64 X, .int .i64 Q] 49)
  have hxx := Box.new w3 49 #[.int .i64 X, .int .i64 Q]
  replace h := Below.step h hA
  replace hxp := hxp.kept hA
  replace hxq := hxq.kept hA
  replace hxs := hxs.kept hA
  replace hxr := hxr.kept hA
  replace hL := hL.kept hA
  clear hA kp0 kp1 kp2 lp kq0 kq1 kq2 lq ks0 ks1 ls kr0 kr1 kr2 lr
  generalize w3.alloc (.cells #[.int .i64 X, .int .i64 Q] 49) = w4 at *
  generalize w3.heap.size = gx at hxx ⊢
  obtain ⟨kp0, kp1, kp2⟩ := hxp.three
  have lp := hxp.lt
  obtain ⟨kq0, kq1, kq2⟩ := hxq.three
  have lq := hxq.lt
  obtain ⟨ks0, ks1⟩ := hxs.two
  have ls := hxs.lt
  obtain ⟨kr0, kr1, kr2⟩ := hxr.three
  have lr := hxr.lt
  obtain ⟨kx0, kx1⟩ := hxx.two
  have lx := hxx.lt
  go_wp2_with fail
  refine (c3.out _).mono ?_
  rintro e w5 ⟨rfl, hb⟩
  replace h := Below.step h hb
  replace hxp := hxp.kept hb
  replace hxq := hxq.kept hb
  replace hxs := hxs.kept hb
  replace hxr := hxr.kept hb
  replace hxx := hxx.kept hb
  replace hL := hL.kept hb
  clear hb kp0 kp1 kp2 lp kq0 kq1 kq2 lq ks0 ks1 ls kr0 kr1 kr2 lr kx0 kx1 lx
  obtain ⟨kp0, kp1, kp2⟩ := hxp.three
  have lp := hxp.lt
  obtain ⟨kq0, kq1, kq2⟩ := hxq.three
  have lq := hxq.lt
  obtain ⟨ks0, ks1⟩ := hxs.two
  have ls := hxs.lt
  obtain ⟨kr0, kr1, kr2⟩ := hxr.three
  have lr := hxr.lt
  obtain ⟨kx0, kx1⟩ := hxx.two
  have lx := hxx.lt
  have fr0 := hxr.free 0
  have fr1 := hxr.free 1
  have fr2 := hxr.free 2
  obtain ⟨sr0, sr1, sr2⟩ := ((((hxr.set 0 (.int .i64 0)).set 1 (.int .i64 0)).set 2 (.int .i64 0)).kept (below_alloc1 _ (.cells #[.int .i64 u, .int .i64 0, .int .i64 E] 26))).three
  go_wp2_with fail
  refine bodyPost_ret (v := .tuple #[.agg #[.int .i64 0, .int .i64 0, .int .i64 0], .bool false]) (by simp [results, Tryd.results36, go_sem, sr0, sr1, sr2]) (by rfl) ⟨by rfl, ?_⟩
  exact Below.step (below_sets3 h (by omega) _ _ _) (below_alloc1 _ _)


set_option maxHeartbeats 4000000 in
set_option maxRecDepth 100000 in
theorem line_yes (p q : P3) (N D : Int) (w : World) (hL : Lim w) (n1 : -1392000 ≤ N) (n2 : N ≤ 1392000) (d1 : 1 ≤ D) (d2 : D ≤ 8000) (fp : (-10000 ≤ p.x ∧ p.x ≤ 10000) ∧ (1 ≤ p.e ∧ p.e ≤ 20)) (fq : (-10000 ≤ q.x ∧ q.x ≤ 10000) ∧ (1 ≤ q.e ∧ q.e ≤ 20)) (X Q u E : Int) (ok ok2 : Bool) (c2 : ∀ W : World, Lim W → Calls Tryd.prog 53 #[.int .i64 (N * N * (p.e * p.e) * (q.e * q.e) - D * D * (p.x * (q.e * q.e) + q.x * (p.e * p.e))), .int .i64 (D * D * (p.e * p.e) * (q.e * q.e))] W (GivesFB W X Q ok)) (c3 : ∀ W : World, Calls Tryd.prog 54 #[.agg #[.int .i64 X, .int .i64 Q]] W (GivesPB W u 0 E ok2)) (h : ok = true) (h2 : ok2 = true) (ux1 : -10000 ≤ u) (ux2 : u ≤ 10000) (E1 : 1 ≤ E) (E2 : E ≤ 20) (py : -1800000 ≤ p.y ∧ p.y ≤ 1800000) (Y : Int) (hY : ((N * p.e * (p.x * E * E - u * (p.e * p.e)) - p.y * D * E * E) * E).tdiv (D * (p.e * p.e) * p.e) = Y) : Calls Tryd.prog 36 #[.agg #[.int .i64 p.x, .int .i64 p.y, .int .i64 p.e], .agg #[.int .i64 q.x, .int .i64 q.y, .int .i64 q.e], .agg #[.int .i64 N, .int .i64 D]] w (GivesPB w u Y E true) := by
  subst h h2
  have e0 : ¬ (N.natAbs : Int) > 1392000 := by omega
  have e0b : ¬ D > 8000 := by omega
  replace c2 := Lib.hid c2
  replace c3 := Lib.hid c3
  obtain ⟨⟨a1, a2⟩, ⟨a3, a4⟩, ⟨a5, a6⟩, ⟨a7, a8⟩, ⟨b1, b2⟩, ⟨b3, b4⟩, ⟨b5, b6⟩, ⟨b7, b8⟩, ⟨u1, u2⟩, ⟨u3, u4⟩, ⟨u5, u6⟩, ⟨u7, u8⟩⟩ := t_bd (n := N) fp fq ⟨d1, d2⟩ (by omega)
  have ee1 := (ptE_bd fp.2).1
  have ee2 := (ptE_bd fq.2).1
  obtain ⟨⟨x1, x2⟩, ⟨x3, x4⟩⟩ := fp
  obtain ⟨⟨y1, y2⟩, ⟨y3, y4⟩⟩ := fq
  have v1 := fr_mul_bd (a := p.x) (b := q.e * q.e) (M := 10000) (N := 400) x1 x2 (by omega) (by omega)
  have v2 := fr_mul_bd (a := q.x) (b := p.e * p.e) (M := 10000) (N := 400) y1 y2 (by omega) (by omega)
  have v3 := fr_mul_bd (a := D * D) (b := p.x * (q.e * q.e) + q.x * (p.e * p.e)) (M := 64000000) (N := 8000000) (by omega) (by omega) (by omega) (by omega)
  have w1 := fr_mul_bd (a := N) (b := p.e) (M := 1392000) (N := 20) n1 n2 (by omega) x4
  have w2 := fr_mul_bd (a := p.x) (b := E) (M := 10000) (N := 20) x1 x2 (by omega) E2
  have w3 := fr_mul_bd (a := p.x * E) (b := E) (M := 200000) (N := 20) (by omega) (by omega) (by omega) E2
  have w4 := fr_mul_bd (a := u) (b := p.e * p.e) (M := 10000) (N := 400) ux1 ux2 (by omega) (by omega)
  have w5 := fr_mul_bd (a := N * p.e) (b := p.x * E * E - u * (p.e * p.e)) (M := 27840000) (N := 8000000) (by omega) (by omega) (by omega) (by omega)
  have w6 := fr_mul_bd (a := p.y) (b := D) (M := 1800000) (N := 8000) py.1 py.2 (by omega) d2
  have w7 := fr_mul_bd (a := p.y * D) (b := E) (M := 14400000000) (N := 20) (by omega) (by omega) (by omega) E2
  have w8 := fr_mul_bd (a := p.y * D * E) (b := E) (M := 288000000000) (N := 20) (by omega) (by omega) (by omega) E2
  have w9 := fr_mul_bd (a := N * p.e * (p.x * E * E - u * (p.e * p.e)) - p.y * D * E * E) (b := E) (M := 300000000000000) (N := 20) (by omega) (by omega) (by omega) E2
  have s1 := mul_bd1 (a := D) (b := p.e * p.e) (M := 8000) (N := 400) d1 d2 ee1.1 ee1.2
  have s2 := mul_bd1 (a := D * (p.e * p.e)) (b := p.e) (M := 3200000) (N := 20) s1.1 s1.2 x3 x4
  have s3 : (D * (p.e * p.e) * p.e == 0) = false := by simp only [beq_eq_false_iff_ne]; omega
  replace hY := Lib.hid hY
  obtain ⟨py1, py2⟩ := py
  have h := Below.refl w.heap.size w
  have hA := below_alloc1 w (.cells #[.int .i64 p.x, .int .i64 p.y, .int .i64 p.e] 26)
  have hxp := Box.new w 26 #[.int .i64 p.x, .int .i64 p.y, .int .i64 p.e]
  replace h := Below.step h hA
  clear hA
  have hA := below_alloc1 (w.alloc (.cells #[.int .i64 p.x, .int .i64 p.y, .int .i64 p.e] 26)) (.cells #[.int .i64 q.x, .int .i64 q.y, .int .i64 q.e] 26)
  have hxq := Box.new (w.alloc (.cells #[.int .i64 p.x, .int .i64 p.y, .int .i64 p.e] 26)) 26 #[.int .i64 q.x, .int .i64 q.y, .int .i64 q.e]
  rw [show (w.alloc (.cells #[.int .i64 p.x, .int .i64 p.y, .int .i64 p.e] 26)).heap.size = w.heap.size + 1 from by simp] at hxq
  replace h := Below.step h hA
  replace hxp := hxp.kept hA
  clear hA
  have hA := below_alloc1 ((w.alloc (.cells #[.int .i64 p.x, .int .i64 p.y, .int .i64 p.e] 26)).alloc (.cells #[.int .i64 q.x, .int .i64 q.y, .int .i64 q.e] 26)) (.cells #[.int .i64 N, .int .i64 D] 49)
  have hxs := Box.new ((w.alloc (.cells #[.int .i64 p.x, .int .i64 p.y, .int .i64 p.e] 26)).alloc (.cells #[.int .i64 q.x, .int .i64 q.y, .int .i64 q.e] 26)) 49 #[.int .i64 N, .int .i64 D]
  rw [show ((w.alloc (.cells #[.int .i64 p.x, .int .i64 p.y, .int .i64 p.e] 26)).alloc (.cells #[.int .i64 q.x, .int .i64 q.y, .int .i64 q.e] 26)).heap.size = w.heap.size + 2 from by simp] at hxs
  replace h := Below.step h hA
  replace hxp := hxp.kept hA
  replace hxq := hxq.kept hA
  clear hA
  have hA := below_alloc1 (((w.alloc (.cells #[.int .i64 p.x, .int .i64 p.y, .int .i64 p.e] 26)).alloc (.cells #[.int .i64 q.x, .int .i64 q.y, .int .i64 q.e] 26)).alloc (.cells #[.int .i64 N, .int .i64 D] 49)) (.cells #[.int .i64 0, .int .i64 0, .int .i64 0] 26)
  have hxr := Box.new (((w.alloc (.cells #[.int .i64 p.x, .int .i64 p.y, .int .i64 p.e] 26)).alloc (.cells #[.int .i64 q.x, .int .i64 q.y, .int .i64 q.e] 26)).alloc (.cells #[.int .i64 N, .int .i64 D] 49)) 26 #[.int .i64 0, .int .i64 0, .int .i64 0]
  rw [show (((w.alloc (.cells #[.int .i64 p.x, .int .i64 p.y, .int .i64 p.e] 26)).alloc (.cells #[.int .i64 q.x, .int .i64 q.y, .int .i64 q.e] 26)).alloc (.cells #[.int .i64 N, .int .i64 D] 49)).heap.size = w.heap.size + 3 from by simp] at hxr
  replace h := Below.step h hA
  replace hxp := hxp.kept hA
  replace hxq := hxq.kept hA
  replace hxs := hxs.kept hA
  clear hA
  obtain ⟨kp0, kp1, kp2⟩ := hxp.three
  have lp := hxp.lt
  obtain ⟨kq0, kq1, kq2⟩ := hxq.three
  have lq := hxq.lt
  obtain ⟨ks0, ks1⟩ := hxs.two
  have ls := hxs.lt
  obtain ⟨kr0, kr1, kr2⟩ := hxr.three
  have lr := hxr.lt
  replace hL := hL.kept h
  go_enter Tryd.func36, Tryd.ntmps36
  go_wp2_with fail
  go_quiet (fail)
  have hb := below_dr ((((w.alloc (.cells #[.int .i64 p.x, .int .i64 p.y, .int .i64 p.e] 26)).alloc (.cells #[.int .i64 q.x, .int .i64 q.y, .int .i64 q.e] 26)).alloc (.cells #[.int .i64 N, .int .i64 D] 49)).alloc (.cells #[.int .i64 0, .int .i64 0, .int .i64 0] 26)) nq
  generalize World.drewN ((((w.alloc (.cells #[.int .i64 p.x, .int .i64 p.y, .int .i64 p.e] 26)).alloc (.cells #[.int .i64 q.x, .int .i64 q.y, .int .i64 q.e] 26)).alloc (.cells #[.int .i64 N, .int .i64 D] 49)).alloc (.cells #[.int .i64 0, .int .i64 0, .int .i64 0] 26)) nq = w1 at *
  replace h := Below.step h hb
  replace hxp := hxp.kept hb
  replace hxq := hxq.kept hb
  replace hxs := hxs.kept hb
  replace hxr := hxr.kept hb
  replace hL := hL.kept hb
  clear hb kp0 kp1 kp2 lp kq0 kq1 kq2 lq ks0 ks1 ls kr0 kr1 kr2 lr
  obtain ⟨kp0, kp1, kp2⟩ := hxp.three
  have lp := hxp.lt
  obtain ⟨kq0, kq1, kq2⟩ := hxq.three
  have lq := hxq.lt
  obtain ⟨ks0, ks1⟩ := hxs.two
  have ls := hxs.lt
  obtain ⟨kr0, kr1, kr2⟩ := hxr.three
  have lr := hxr.lt
  go_wp2_with fail
  go_quiet (fail)
  have hb := below_dr w1 nq
  generalize World.drewN w1 nq = w2 at *
  replace h := Below.step h hb
  replace hxp := hxp.kept hb
  replace hxq := hxq.kept hb
  replace hxs := hxs.kept hb
  replace hxr := hxr.kept hb
  replace hL := hL.kept hb
  clear hb kp0 kp1 kp2 lp kq0 kq1 kq2 lq ks0 ks1 ls kr0 kr1 kr2 lr
  obtain ⟨kp0, kp1, kp2⟩ := hxp.three
  have lp := hxp.lt
  obtain ⟨kq0, kq1, kq2⟩ := hxq.three
  have lq := hxq.lt
  obtain ⟨ks0, ks1⟩ := hxs.two
  have ls := hxs.lt
  obtain ⟨kr0, kr1, kr2⟩ := hxr.three
  have lr := hxr.lt
  go_wp2_with fail
  refine (c2.out _ hL).mono ?_
  rintro e w3 ⟨rfl, hb⟩
  replace h := Below.step h hb
  replace hxp := hxp.kept hb
  replace hxq := hxq.kept hb
  replace hxs := hxs.kept hb
  replace hxr := hxr.kept hb
  replace hL := hL.kept hb
  clear hb kp0 kp1 kp2 lp kq0 kq1 kq2 lq ks0 ks1 ls kr0 kr1 kr2 lr
  obtain ⟨kp0, kp1, kp2⟩ := hxp.three
  have lp := hxp.lt
  obtain ⟨kq0, kq1, kq2⟩ := hxq.three
  have lq := hxq.lt
  obtain ⟨ks0, ks1⟩ := hxs.two
  have ls := hxs.lt
  obtain ⟨kr0, kr1, kr2⟩ := hxr.three
  have lr := hxr.lt
  go_wp2_with fail
  have hA := below_alloc1 w3 (.cells #[.int .i64 X, .int .i64 Q] 49)
  have hxx := Box.new w3 49 #[.int .i64 X, .int .i64 Q]
  replace h := Below.step h hA
  replace hxp := hxp.kept hA
  replace hxq := hxq.kept hA
  replace hxs := hxs.kept hA
  replace hxr := hxr.kept hA
  replace hL := hL.kept hA
  clear hA kp0 kp1 kp2 lp kq0 kq1 kq2 lq ks0 ks1 ls kr0 kr1 kr2 lr
  generalize w3.alloc (.cells #[.int .i64 X, .int .i64 Q] 49) = w4 at *
  generalize w3.heap.size = gx at hxx ⊢
  obtain ⟨kp0, kp1, kp2⟩ := hxp.three
  have lp := hxp.lt
  obtain ⟨kq0, kq1, kq2⟩ := hxq.three
  have lq := hxq.lt
  obtain ⟨ks0, ks1⟩ := hxs.two
  have ls := hxs.lt
  obtain ⟨kr0, kr1, kr2⟩ := hxr.three
  have lr := hxr.lt
  obtain ⟨kx0, kx1⟩ := hxx.two
  have lx := hxx.lt
  go_wp2_with fail
  refine (c3.out _).mono ?_
  rintro e w5 ⟨rfl, hb⟩
  replace h := Below.step h hb
  replace hxp := hxp.kept hb
  replace hxq := hxq.kept hb
  replace hxs := hxs.kept hb
  replace hxr := hxr.kept hb
  replace hxx := hxx.kept hb
  replace hL := hL.kept hb
  clear hb kp0 kp1 kp2 lp kq0 kq1 kq2 lq ks0 ks1 ls kr0 kr1 kr2 lr kx0 kx1 lx
  obtain ⟨kp0, kp1, kp2⟩ := hxp.three
  have lp := hxp.lt
  obtain ⟨kq0, kq1, kq2⟩ := hxq.three
  have lq := hxq.lt
  obtain ⟨ks0, ks1⟩ := hxs.two
  have ls := hxs.lt
  obtain ⟨kr0, kr1, kr2⟩ := hxr.three
  have lr := hxr.lt
  obtain ⟨kx0, kx1⟩ := hxx.two
  have lx := hxx.lt
  have fr0 := hxr.free 0
  have fr1 := hxr.free 1
  have fr2 := hxr.free 2
  obtain ⟨sr0, sr1, sr2⟩ := ((((hxr.set 0 (.int .i64 u)).set 1 (.int .i64 Y)).set 2 (.int .i64 E)).kept (below_alloc1 _ (.cells #[.int .i64 u, .int .i64 Y, .int .i64 E] 26))).three
  go_wp2_with fail
  rw [hY.out]
  refine bodyPost_ret (v := .tuple #[.agg #[.int .i64 u, .int .i64 Y, .int .i64 E], .bool true]) (by simp [results, Tryd.results36, go_sem, sr0, sr1, sr2]) (by rfl) ⟨by rfl, ?_⟩
  exact Below.step (below_sets3 h (by omega) _ _ _) (below_alloc1 _ _)

end Go.Proofs.YtabcnkobojkdhaaDoor
