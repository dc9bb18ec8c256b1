/- The program's sums of points modulo a prime (written by wip/gen/fmi2.py). -/
import Derived.Test.YtbgoiflkpefckaaFmI1
import Derived.Deep.RegionHeld3
import Derived.Deep.DeepCutAuto
namespace Go.Proofs.Ytbgoiflkpefckaa
open Go.RowKit Go.Joins

set_option maxHeartbeats 1000000 in
set_option maxRecDepth 100000 in
theorem slope_ne (A B p x1 y1 x2 y2 : Nat) (w : World) (h5 : 5 ≤ p) (h9 : p ≤ 997) (hp : Pr p) (hx1 : x1 < p) (hy1 : y1 < p) (hx2 : x2 < p) (hy2 : y2 < p) (hne : x1 ≠ x2) (h0 : rs p ((x2 : Int) - x1) ≠ 0) : Calls Try.prog 78 #[.agg #[.int .i64 (A : Int), .int .i64 (B : Int), .int .i64 (p : Int)], .agg #[.int .i64 (x1 : Int), .int .i64 (y1 : Int), .int .i64 1], .agg #[.int .i64 (x2 : Int), .int .i64 (y2 : Int), .int .i64 1]] w (GivesI w (rs p (((y2 : Int) - y1) * ivn p ((x2 : Int) - x1)))) := by
  have p0 : ((p : Int) == 0) = false := beq_eq_false_iff_ne.2 (by omega)
  have p1 : (p : Int) ≠ 0 := by omega
  have p2 : p ≠ 0 := by omega
  have c1 := fun W => inv_any ((x2 : Int) - x1) p W ⟨by omega, by omega⟩ hp h9 h0
  obtain ⟨I, hI⟩ : ∃ I, I = ivn p ((x2 : Int) - x1) := ⟨_, rfl⟩
  have hIp : I < p := by rw [hI]; exact ivn_lt (by omega) _
  rw [← hI] at c1 ⊢
  obtain ⟨m1, m2⟩ := nmul' (show y2 ≤ 996 by omega) (show I ≤ 996 by omega) (M := 992016) rfl
  obtain ⟨n1, n2⟩ := nmul' (show y1 ≤ 996 by omega) (show I ≤ 996 by omega) (M := 992016) rfl
  have m3 : ((y2 : Int) - y1) * I = (y2 : Int) * I - (y1 : Int) * I := Int.sub_mul _ _ _
  have m4 : -992016 ≤ ((y2 : Int) - y1) * I ∧ ((y2 : Int) - y1) * I ≤ 992016 := by rw [m3]; omega
  clear m3 m1 m2 n1 n2
  have c2 := fun W => rmod_any (((y2 : Int) - y1) * I) p W ⟨by omega, by omega⟩ (by omega) h9
  replace c1 := Lib.hid c1
  replace c2 := Lib.hid c2
  clear hI h0 hp
  have ed : ((x1 : Int) == x2) = false := beq_eq_false_iff_ne.2 (by omega)
  clear hne
  have h := Below.refl w.heap.size w
  have hA := below_alloc1 w (.cells #[.int .i64 (A : Int), .int .i64 (B : Int), .int .i64 (p : Int)] 62)
  have hxf := Box.new w 62 #[.int .i64 (A : Int), .int .i64 (B : Int), .int .i64 (p : Int)]
  replace h := Below.step h hA
  clear hA
  have hA := below_alloc1 (w.alloc (.cells #[.int .i64 (A : Int), .int .i64 (B : Int), .int .i64 (p : Int)] 62)) (.cells #[.int .i64 (x1 : Int), .int .i64 (y1 : Int), .int .i64 1] 70)
  have hxs := Box.new (w.alloc (.cells #[.int .i64 (A : Int), .int .i64 (B : Int), .int .i64 (p : Int)] 62)) 70 #[.int .i64 (x1 : Int), .int .i64 (y1 : Int), .int .i64 1]
  rw [show (w.alloc (.cells #[.int .i64 (A : Int), .int .i64 (B : Int), .int .i64 (p : Int)] 62)).heap.size = w.heap.size + 1 from by simp] at hxs
  replace h := Below.step h hA
  replace hxf := hxf.kept hA
  clear hA
  have hA := below_alloc1 ((w.alloc (.cells #[.int .i64 (A : Int), .int .i64 (B : Int), .int .i64 (p : Int)] 62)).alloc (.cells #[.int .i64 (x1 : Int), .int .i64 (y1 : Int), .int .i64 1] 70)) (.cells #[.int .i64 (x2 : Int), .int .i64 (y2 : Int), .int .i64 1] 70)
  have hxt := Box.new ((w.alloc (.cells #[.int .i64 (A : Int), .int .i64 (B : Int), .int .i64 (p : Int)] 62)).alloc (.cells #[.int .i64 (x1 : Int), .int .i64 (y1 : Int), .int .i64 1] 70)) 70 #[.int .i64 (x2 : Int), .int .i64 (y2 : Int), .int .i64 1]
  rw [show ((w.alloc (.cells #[.int .i64 (A : Int), .int .i64 (B : Int), .int .i64 (p : Int)] 62)).alloc (.cells #[.int .i64 (x1 : Int), .int .i64 (y1 : Int), .int .i64 1] 70)).heap.size = w.heap.size + 2 from by simp] at hxt
  replace h := Below.step h hA
  replace hxf := hxf.kept hA
  replace hxs := hxs.kept hA
  clear hA
  obtain ⟨kf0, kf1, kf2⟩ := hxf.three
  have lf := hxf.lt
  obtain ⟨ks0, ks1, ks2⟩ := hxs.three
  have ls := hxs.lt
  obtain ⟨kt0, kt1, kt2⟩ := hxt.three
  have lt := hxt.lt
  go_enter Try.func78, Try.ntmps78
  go_wp2_with fail
  generalize (((w.alloc (.cells #[.int .i64 (A : Int), .int .i64 (B : Int), .int .i64 (p : Int)] 62)).alloc (.cells #[.int .i64 (x1 : Int), .int .i64 (y1 : Int), .int .i64 1] 70)).alloc (.cells #[.int .i64 (x2 : Int), .int .i64 (y2 : Int), .int .i64 1] 70)) = w1 at *
  refine wp_region_still_lit (by kernel_rfl) (by kernel_rfl) ?_
  repeat still_step
  refine wpStill_nil ?_
  have hb : Below w1.heap.size w1 w1.drew := ⟨rfl, rfl, rfl, Nat.le_refl _, fun _ _ => rfl⟩
  change Exit.then _ _ _ _ w1.drew
  generalize w1.drew = w2 at *
  replace h := Below.step h hb
  replace hxf := hxf.kept hb
  replace hxs := hxs.kept hb
  replace hxt := hxt.kept hb
  clear hb kf0 kf1 kf2 lf ks0 ks1 ks2 ls kt0 kt1 kt2 lt
  obtain ⟨kf0, kf1, kf2⟩ := hxf.three
  have lf := hxf.lt
  obtain ⟨ks0, ks1, ks2⟩ := hxs.three
  have ls := hxs.lt
  obtain ⟨kt0, kt1, kt2⟩ := hxt.three
  have lt := hxt.lt
  go_wp2_with fail
  refine (c1.out _).mono ?_
  rintro e w3 ⟨rfl, rfl⟩
  go_wp2_with fail
  refine (c2.out _).mono ?_
  rintro e w4 ⟨rfl, rfl⟩
  go_wp2_with fail
  go_ret
  exact ⟨rfl, h⟩


set_option maxHeartbeats 1000000 in
set_option maxRecDepth 100000 in
theorem sum_left (A B p : Nat) (x y v : Int) (w : World) : Calls Try.prog 61 #[.agg #[.int .i64 (A : Int), .int .i64 (B : Int), .int .i64 (p : Int)], .agg #[.int .i64 0, .int .i64 0, .int .i64 0], .agg #[.int .i64 x, .int .i64 y, .int .i64 v]] w (GivesP w x y v) := by
  have h := Below.refl w.heap.size w
  have hA := below_alloc1 w (.cells #[.int .i64 (A : Int), .int .i64 (B : Int), .int .i64 (p : Int)] 62)
  have hxf := Box.new w 62 #[.int .i64 (A : Int), .int .i64 (B : Int), .int .i64 (p : Int)]
  replace h := Below.step h hA
  clear hA
  have hA := below_alloc1 (w.alloc (.cells #[.int .i64 (A : Int), .int .i64 (B : Int), .int .i64 (p : Int)] 62)) (.cells #[.int .i64 0, .int .i64 0, .int .i64 0] 70)
  have hxs := Box.new (w.alloc (.cells #[.int .i64 (A : Int), .int .i64 (B : Int), .int .i64 (p : Int)] 62)) 70 #[.int .i64 0, .int .i64 0, .int .i64 0]
  rw [show (w.alloc (.cells #[.int .i64 (A : Int), .int .i64 (B : Int), .int .i64 (p : Int)] 62)).heap.size = w.heap.size + 1 from by simp] at hxs
  replace h := Below.step h hA
  replace hxf := hxf.kept hA
  clear hA
  have hA := below_alloc1 ((w.alloc (.cells #[.int .i64 (A : Int), .int .i64 (B : Int), .int .i64 (p : Int)] 62)).alloc (.cells #[.int .i64 0, .int .i64 0, .int .i64 0] 70)) (.cells #[.int .i64 x, .int .i64 y, .int .i64 v] 70)
  have hxt := Box.new ((w.alloc (.cells #[.int .i64 (A : Int), .int .i64 (B : Int), .int .i64 (p : Int)] 62)).alloc (.cells #[.int .i64 0, .int .i64 0, .int .i64 0] 70)) 70 #[.int .i64 x, .int .i64 y, .int .i64 v]
  rw [show ((w.alloc (.cells #[.int .i64 (A : Int), .int .i64 (B : Int), .int .i64 (p : Int)] 62)).alloc (.cells #[.int .i64 0, .int .i64 0, .int .i64 0] 70)).heap.size = w.heap.size + 2 from by simp] at hxt
  replace h := Below.step h hA
  replace hxf := hxf.kept hA
  replace hxs := hxs.kept hA
  clear hA
  have hA := below_alloc1 (((w.alloc (.cells #[.int .i64 (A : Int), .int .i64 (B : Int), .int .i64 (p : Int)] 62)).alloc (.cells #[.int .i64 0, .int .i64 0, .int .i64 0] 70)).alloc (.cells #[.int .i64 x, .int .i64 y, .int .i64 v] 70)) (.cells #[.int .i64 0, .int .i64 0, .int .i64 0] 70)
  have hxr := Box.new (((w.alloc (.cells #[.int .i64 (A : Int), .int .i64 (B : Int), .int .i64 (p : Int)] 62)).alloc (.cells #[.int .i64 0, .int .i64 0, .int .i64 0] 70)).alloc (.cells #[.int .i64 x, .int .i64 y, .int .i64 v] 70)) 70 #[.int .i64 0, .int .i64 0, .int .i64 0]
  rw [show (((w.alloc (.cells #[.int .i64 (A : Int), .int .i64 (B : Int), .int .i64 (p : Int)] 62)).alloc (.cells #[.int .i64 0, .int .i64 0, .int .i64 0] 70)).alloc (.cells #[.int .i64 x, .int .i64 y, .int .i64 v] 70)).heap.size = w.heap.size + 3 from by simp] at hxr
  replace h := Below.step h hA
  replace hxf := hxf.kept hA
  replace hxs := hxs.kept hA
  replace hxt := hxt.kept hA
  clear hA
  obtain ⟨kf0, kf1, kf2⟩ := hxf.three
  have lf := hxf.lt
  obtain ⟨ks0, ks1, ks2⟩ := hxs.three
  have ls := hxs.lt
  obtain ⟨kt0, kt1, kt2⟩ := hxt.three
  have lt := hxt.lt
  obtain ⟨kr0, kr1, kr2⟩ := hxr.three
  have lr := hxr.lt
  go_enter Try.func61, Try.ntmps61
  go_wp2_with fail
  refine bodyPost_ret (v := .agg #[.int .i64 x, .int .i64 y, .int .i64 v]) (by simp [results, Try.results61, go_sem]) (by rfl) ⟨by rfl, ?_⟩
  exact Below.step (Below.step (Below.step (below_alloc1 _ _) (below_alloc1 _ _)) (below_alloc1 _ _)) (below_alloc1 _ _)


set_option maxHeartbeats 1000000 in
set_option maxRecDepth 100000 in
theorem sum_right (A B p x y : Nat) (w : World) : Calls Try.prog 61 #[.agg #[.int .i64 (A : Int), .int .i64 (B : Int), .int .i64 (p : Int)], .agg #[.int .i64 (x : Int), .int .i64 (y : Int), .int .i64 1], .agg #[.int .i64 0, .int .i64 0, .int .i64 0]] w (GivesP w x y 1) := by
  have h := Below.refl w.heap.size w
  have hA := below_alloc1 w (.cells #[.int .i64 (A : Int), .int .i64 (B : Int), .int .i64 (p : Int)] 62)
  have hxf := Box.new w 62 #[.int .i64 (A : Int), .int .i64 (B : Int), .int .i64 (p : Int)]
  replace h := Below.step h hA
  clear hA
  have hA := below_alloc1 (w.alloc (.cells #[.int .i64 (A : Int), .int .i64 (B : Int), .int .i64 (p : Int)] 62)) (.cells #[.int .i64 (x : Int), .int .i64 (y : Int), .int .i64 1] 70)
  have hxs := Box.new (w.alloc (.cells #[.int .i64 (A : Int), .int .i64 (B : Int), .int .i64 (p : Int)] 62)) 70 #[.int .i64 (x : Int), .int .i64 (y : Int), .int .i64 1]
  rw [show (w.alloc (.cells #[.int .i64 (A : Int), .int .i64 (B : Int), .int .i64 (p : Int)] 62)).heap.size = w.heap.size + 1 from by simp] at hxs
  replace h := Below.step h hA
  replace hxf := hxf.kept hA
  clear hA
  have hA := below_alloc1 ((w.alloc (.cells #[.int .i64 (A : Int), .int .i64 (B : Int), .int .i64 (p : Int)] 62)).alloc (.cells #[.int .i64 (x : Int), .int .i64 (y : Int), .int .i64 1] 70)) (.cells #[.int .i64 0, .int .i64 0, .int .i64 0] 70)
  have hxt := Box.new ((w.alloc (.cells #[.int .i64 (A : Int), .int .i64 (B : Int), .int .i64 (p : Int)] 62)).alloc (.cells #[.int .i64 (x : Int), .int .i64 (y : Int), .int .i64 1] 70)) 70 #[.int .i64 0, .int .i64 0, .int .i64 0]
  rw [show ((w.alloc (.cells #[.int .i64 (A : Int), .int .i64 (B : Int), .int .i64 (p : Int)] 62)).alloc (.cells #[.int .i64 (x : Int), .int .i64 (y : Int), .int .i64 1] 70)).heap.size = w.heap.size + 2 from by simp] at hxt
  replace h := Below.step h hA
  replace hxf := hxf.kept hA
  replace hxs := hxs.kept hA
  clear hA
  have hA := below_alloc1 (((w.alloc (.cells #[.int .i64 (A : Int), .int .i64 (B : Int), .int .i64 (p : Int)] 62)).alloc (.cells #[.int .i64 (x : Int), .int .i64 (y : Int), .int .i64 1] 70)).alloc (.cells #[.int .i64 0, .int .i64 0, .int .i64 0] 70)) (.cells #[.int .i64 0, .int .i64 0, .int .i64 0] 70)
  have hxr := Box.new (((w.alloc (.cells #[.int .i64 (A : Int), .int .i64 (B : Int), .int .i64 (p : Int)] 62)).alloc (.cells #[.int .i64 (x : Int), .int .i64 (y : Int), .int .i64 1] 70)).alloc (.cells #[.int .i64 0, .int .i64 0, .int .i64 0] 70)) 70 #[.int .i64 0, .int .i64 0, .int .i64 0]
  rw [show (((w.alloc (.cells #[.int .i64 (A : Int), .int .i64 (B : Int), .int .i64 (p : Int)] 62)).alloc (.cells #[.int .i64 (x : Int), .int .i64 (y : Int), .int .i64 1] 70)).alloc (.cells #[.int .i64 0, .int .i64 0, .int .i64 0] 70)).heap.size = w.heap.size + 3 from by simp] at hxr
  replace h := Below.step h hA
  replace hxf := hxf.kept hA
  replace hxs := hxs.kept hA
  replace hxt := hxt.kept hA
  clear hA
  obtain ⟨kf0, kf1, kf2⟩ := hxf.three
  have lf := hxf.lt
  obtain ⟨ks0, ks1, ks2⟩ := hxs.three
  have ls := hxs.lt
  obtain ⟨kt0, kt1, kt2⟩ := hxt.three
  have lt := hxt.lt
  obtain ⟨kr0, kr1, kr2⟩ := hxr.three
  have lr := hxr.lt
  go_enter Try.func61, Try.ntmps61
  go_wp2_with fail
  refine bodyPost_ret (v := .agg #[.int .i64 (x : Int), .int .i64 (y : Int), .int .i64 1]) (by simp [results, Try.results61, go_sem]) (by rfl) ⟨by rfl, ?_⟩
  exact Below.step (Below.step (Below.step (below_alloc1 _ _) (below_alloc1 _ _)) (below_alloc1 _ _)) (below_alloc1 _ _)


set_option maxHeartbeats 1000000 in
set_option maxRecDepth 100000 in
theorem sum_opp (A B p x y : Nat) (w : World) (h5 : 5 ≤ p) (h9 : p ≤ 997) (hy : y < p) : Calls Try.prog 61 #[.agg #[.int .i64 (A : Int), .int .i64 (B : Int), .int .i64 (p : Int)], .agg #[.int .i64 (x : Int), .int .i64 (rs p (-(y : Int)) : Int), .int .i64 1], .agg #[.int .i64 (x : Int), .int .i64 (y : Int), .int .i64 1]] w (GivesP w 0 0 0) := by
  have c1 := fun W => opp_core A B p y x 1 W h5 h9 hy
  replace c1 := Lib.hid c1
  have h := Below.refl w.heap.size w
  have hA := below_alloc1 w (.cells #[.int .i64 (A : Int), .int .i64 (B : Int), .int .i64 (p : Int)] 62)
  have hxf := Box.new w 62 #[.int .i64 (A : Int), .int .i64 (B : Int), .int .i64 (p : Int)]
  replace h := Below.step h hA
  clear hA
  have hA := below_alloc1 (w.alloc (.cells #[.int .i64 (A : Int), .int .i64 (B : Int), .int .i64 (p : Int)] 62)) (.cells #[.int .i64 (x : Int), .int .i64 (rs p (-(y : Int)) : Int), .int .i64 1] 70)
  have hxs := Box.new (w.alloc (.cells #[.int .i64 (A : Int), .int .i64 (B : Int), .int .i64 (p : Int)] 62)) 70 #[.int .i64 (x : Int), .int .i64 (rs p (-(y : Int)) : Int), .int .i64 1]
  rw [show (w.alloc (.cells #[.int .i64 (A : Int), .int .i64 (B : Int), .int .i64 (p : Int)] 62)).heap.size = w.heap.size + 1 from by simp] at hxs
  replace h := Below.step h hA
  replace hxf := hxf.kept hA
  clear hA
  have hA := below_alloc1 ((w.alloc (.cells #[.int .i64 (A : Int), .int .i64 (B : Int), .int .i64 (p : Int)] 62)).alloc (.cells #[.int .i64 (x : Int), .int .i64 (rs p (-(y : Int)) : Int), .int .i64 1] 70)) (.cells #[.int .i64 (x : Int), .int .i64 (y : Int), .int .i64 1] 70)
  have hxt := Box.new ((w.alloc (.cells #[.int .i64 (A : Int), .int .i64 (B : Int), .int .i64 (p : Int)] 62)).alloc (.cells #[.int .i64 (x : Int), .int .i64 (rs p (-(y : Int)) : Int), .int .i64 1] 70)) 70 #[.int .i64 (x : Int), .int .i64 (y : Int), .int .i64 1]
  rw [show ((w.alloc (.cells #[.int .i64 (A : Int), .int .i64 (B : Int), .int .i64 (p : Int)] 62)).alloc (.cells #[.int .i64 (x : Int), .int .i64 (rs p (-(y : Int)) : Int), .int .i64 1] 70)).heap.size = w.heap.size + 2 from by simp] at hxt
  replace h := Below.step h hA
  replace hxf := hxf.kept hA
  replace hxs := hxs.kept hA
  clear hA
  have hA := below_alloc1 (((w.alloc (.cells #[.int .i64 (A : Int), .int .i64 (B : Int), .int .i64 (p : Int)] 62)).alloc (.cells #[.int .i64 (x : Int), .int .i64 (rs p (-(y : Int)) : Int), .int .i64 1] 70)).alloc (.cells #[.int .i64 (x : Int), .int .i64 (y : Int), .int .i64 1] 70)) (.cells #[.int .i64 0, .int .i64 0, .int .i64 0] 70)
  have hxr := Box.new (((w.alloc (.cells #[.int .i64 (A : Int), .int .i64 (B : Int), .int .i64 (p : Int)] 62)).alloc (.cells #[.int .i64 (x : Int), .int .i64 (rs p (-(y : Int)) : Int), .int .i64 1] 70)).alloc (.cells #[.int .i64 (x : Int), .int .i64 (y : Int), .int .i64 1] 70)) 70 #[.int .i64 0, .int .i64 0, .int .i64 0]
  rw [show (((w.alloc (.cells #[.int .i64 (A : Int), .int .i64 (B : Int), .int .i64 (p : Int)] 62)).alloc (.cells #[.int .i64 (x : Int), .int .i64 (rs p (-(y : Int)) : Int), .int .i64 1] 70)).alloc (.cells #[.int .i64 (x : Int), .int .i64 (y : Int), .int .i64 1] 70)).heap.size = w.heap.size + 3 from by simp] at hxr
  replace h := Below.step h hA
  replace hxf := hxf.kept hA
  replace hxs := hxs.kept hA
  replace hxt := hxt.kept hA
  clear hA
  obtain ⟨kf0, kf1, kf2⟩ := hxf.three
  have lf := hxf.lt
  obtain ⟨ks0, ks1, ks2⟩ := hxs.three
  have ls := hxs.lt
  obtain ⟨kt0, kt1, kt2⟩ := hxt.three
  have lt := hxt.lt
  obtain ⟨kr0, kr1, kr2⟩ := hxr.three
  have lr := hxr.lt
  go_enter Try.func61, Try.ntmps61
  go_wp2_with fail
  go_upto_region 5 with fail
  generalize ((((w.alloc (.cells #[.int .i64 (A : Int), .int .i64 (B : Int), .int .i64 (p : Int)] 62)).alloc (.cells #[.int .i64 (x : Int), .int .i64 (rs p (-(y : Int)) : Int), .int .i64 1] 70)).alloc (.cells #[.int .i64 (x : Int), .int .i64 (y : Int), .int .i64 1] 70)).alloc (.cells #[.int .i64 0, .int .i64 0, .int .i64 0] 70)) = w1 at *
  have KM : ∀ (W : World), Below w1.heap.size w1 W → (W.cell? ⟨w.heap.size, 0, none⟩ = some (.int .i64 (A : Int)) ∧ W.cell? ⟨w.heap.size, 1, none⟩ = some (.int .i64 (B : Int)) ∧ W.cell? ⟨w.heap.size, 2, none⟩ = some (.int .i64 (p : Int)) ∧ W.cell? ⟨(w.heap.size + 1), 0, none⟩ = some (.int .i64 (x : Int)) ∧ W.cell? ⟨(w.heap.size + 1), 1, none⟩ = some (.int .i64 (rs p (-(y : Int)) : Int)) ∧ W.cell? ⟨(w.heap.size + 1), 2, none⟩ = some (.int .i64 1) ∧ W.cell? ⟨(w.heap.size + 2), 0, none⟩ = some (.int .i64 (x : Int)) ∧ W.cell? ⟨(w.heap.size + 2), 1, none⟩ = some (.int .i64 (y : Int)) ∧ W.cell? ⟨(w.heap.size + 2), 2, none⟩ = some (.int .i64 1) ∧ W.cell? ⟨(w.heap.size + 3), 0, none⟩ = some (.int .i64 0) ∧ W.cell? ⟨(w.heap.size + 3), 1, none⟩ = some (.int .i64 0) ∧ W.cell? ⟨(w.heap.size + 3), 2, none⟩ = some (.int .i64 0) ∧ Below w1.heap.size w1 W) := fun W hW => ⟨(hxf.kept hW).three.1, (hxf.kept hW).three.2.1, (hxf.kept hW).three.2.2, (hxs.kept hW).three.1, (hxs.kept hW).three.2.1, (hxs.kept hW).three.2.2, (hxt.kept hW).three.1, (hxt.kept hW).three.2.1, (hxt.kept hW).three.2.2, (hxr.kept hW).three.1, (hxr.kept hW).three.2.1, (hxr.kept hW).three.2.2, hW⟩
  have KC : ∀ (W W' : World), Below W.heap.size W W' → (W.cell? ⟨w.heap.size, 0, none⟩ = some (.int .i64 (A : Int)) ∧ W.cell? ⟨w.heap.size, 1, none⟩ = some (.int .i64 (B : Int)) ∧ W.cell? ⟨w.heap.size, 2, none⟩ = some (.int .i64 (p : Int)) ∧ W.cell? ⟨(w.heap.size + 1), 0, none⟩ = some (.int .i64 (x : Int)) ∧ W.cell? ⟨(w.heap.size + 1), 1, none⟩ = some (.int .i64 (rs p (-(y : Int)) : Int)) ∧ W.cell? ⟨(w.heap.size + 1), 2, none⟩ = some (.int .i64 1) ∧ W.cell? ⟨(w.heap.size + 2), 0, none⟩ = some (.int .i64 (x : Int)) ∧ W.cell? ⟨(w.heap.size + 2), 1, none⟩ = some (.int .i64 (y : Int)) ∧ W.cell? ⟨(w.heap.size + 2), 2, none⟩ = some (.int .i64 1) ∧ W.cell? ⟨(w.heap.size + 3), 0, none⟩ = some (.int .i64 0) ∧ W.cell? ⟨(w.heap.size + 3), 1, none⟩ = some (.int .i64 0) ∧ W.cell? ⟨(w.heap.size + 3), 2, none⟩ = some (.int .i64 0) ∧ Below w1.heap.size w1 W) → (W'.cell? ⟨w.heap.size, 0, none⟩ = some (.int .i64 (A : Int)) ∧ W'.cell? ⟨w.heap.size, 1, none⟩ = some (.int .i64 (B : Int)) ∧ W'.cell? ⟨w.heap.size, 2, none⟩ = some (.int .i64 (p : Int)) ∧ W'.cell? ⟨(w.heap.size + 1), 0, none⟩ = some (.int .i64 (x : Int)) ∧ W'.cell? ⟨(w.heap.size + 1), 1, none⟩ = some (.int .i64 (rs p (-(y : Int)) : Int)) ∧ W'.cell? ⟨(w.heap.size + 1), 2, none⟩ = some (.int .i64 1) ∧ W'.cell? ⟨(w.heap.size + 2), 0, none⟩ = some (.int .i64 (x : Int)) ∧ W'.cell? ⟨(w.heap.size + 2), 1, none⟩ = some (.int .i64 (y : Int)) ∧ W'.cell? ⟨(w.heap.size + 2), 2, none⟩ = some (.int .i64 1) ∧ W'.cell? ⟨(w.heap.size + 3), 0, none⟩ = some (.int .i64 0) ∧ W'.cell? ⟨(w.heap.size + 3), 1, none⟩ = some (.int .i64 0) ∧ W'.cell? ⟨(w.heap.size + 3), 2, none⟩ = some (.int .i64 0) ∧ Below w1.heap.size w1 W') := fun W W' hb ⟨_, _, _, _, _, _, _, _, _, _, _, _, hW⟩ => KM _ (Below.step hW hb)
  have KA : ∀ (W : World) (o : Obj), (W.cell? ⟨w.heap.size, 0, none⟩ = some (.int .i64 (A : Int)) ∧ W.cell? ⟨w.heap.size, 1, none⟩ = some (.int .i64 (B : Int)) ∧ W.cell? ⟨w.heap.size, 2, none⟩ = some (.int .i64 (p : Int)) ∧ W.cell? ⟨(w.heap.size + 1), 0, none⟩ = some (.int .i64 (x : Int)) ∧ W.cell? ⟨(w.heap.size + 1), 1, none⟩ = some (.int .i64 (rs p (-(y : Int)) : Int)) ∧ W.cell? ⟨(w.heap.size + 1), 2, none⟩ = some (.int .i64 1) ∧ W.cell? ⟨(w.heap.size + 2), 0, none⟩ = some (.int .i64 (x : Int)) ∧ W.cell? ⟨(w.heap.size + 2), 1, none⟩ = some (.int .i64 (y : Int)) ∧ W.cell? ⟨(w.heap.size + 2), 2, none⟩ = some (.int .i64 1) ∧ W.cell? ⟨(w.heap.size + 3), 0, none⟩ = some (.int .i64 0) ∧ W.cell? ⟨(w.heap.size + 3), 1, none⟩ = some (.int .i64 0) ∧ W.cell? ⟨(w.heap.size + 3), 2, none⟩ = some (.int .i64 0) ∧ Below w1.heap.size w1 W) → ((W.alloc o).cell? ⟨w.heap.size, 0, none⟩ = some (.int .i64 (A : Int)) ∧ (W.alloc o).cell? ⟨w.heap.size, 1, none⟩ = some (.int .i64 (B : Int)) ∧ (W.alloc o).cell? ⟨w.heap.size, 2, none⟩ = some (.int .i64 (p : Int)) ∧ (W.alloc o).cell? ⟨(w.heap.size + 1), 0, none⟩ = some (.int .i64 (x : Int)) ∧ (W.alloc o).cell? ⟨(w.heap.size + 1), 1, none⟩ = some (.int .i64 (rs p (-(y : Int)) : Int)) ∧ (W.alloc o).cell? ⟨(w.heap.size + 1), 2, none⟩ = some (.int .i64 1) ∧ (W.alloc o).cell? ⟨(w.heap.size + 2), 0, none⟩ = some (.int .i64 (x : Int)) ∧ (W.alloc o).cell? ⟨(w.heap.size + 2), 1, none⟩ = some (.int .i64 (y : Int)) ∧ (W.alloc o).cell? ⟨(w.heap.size + 2), 2, none⟩ = some (.int .i64 1) ∧ (W.alloc o).cell? ⟨(w.heap.size + 3), 0, none⟩ = some (.int .i64 0) ∧ (W.alloc o).cell? ⟨(w.heap.size + 3), 1, none⟩ = some (.int .i64 0) ∧ (W.alloc o).cell? ⟨(w.heap.size + 3), 2, none⟩ = some (.int .i64 0) ∧ Below w1.heap.size w1 (W.alloc o)) := fun W o ⟨_, _, _, _, _, _, _, _, _, _, _, _, hW⟩ => KM _ (Below.step hW (below_alloc1 _ _))
  have KD : ∀ (W : World), (W.cell? ⟨w.heap.size, 0, none⟩ = some (.int .i64 (A : Int)) ∧ W.cell? ⟨w.heap.size, 1, none⟩ = some (.int .i64 (B : Int)) ∧ W.cell? ⟨w.heap.size, 2, none⟩ = some (.int .i64 (p : Int)) ∧ W.cell? ⟨(w.heap.size + 1), 0, none⟩ = some (.int .i64 (x : Int)) ∧ W.cell? ⟨(w.heap.size + 1), 1, none⟩ = some (.int .i64 (rs p (-(y : Int)) : Int)) ∧ W.cell? ⟨(w.heap.size + 1), 2, none⟩ = some (.int .i64 1) ∧ W.cell? ⟨(w.heap.size + 2), 0, none⟩ = some (.int .i64 (x : Int)) ∧ W.cell? ⟨(w.heap.size + 2), 1, none⟩ = some (.int .i64 (y : Int)) ∧ W.cell? ⟨(w.heap.size + 2), 2, none⟩ = some (.int .i64 1) ∧ W.cell? ⟨(w.heap.size + 3), 0, none⟩ = some (.int .i64 0) ∧ W.cell? ⟨(w.heap.size + 3), 1, none⟩ = some (.int .i64 0) ∧ W.cell? ⟨(w.heap.size + 3), 2, none⟩ = some (.int .i64 0) ∧ Below w1.heap.size w1 W) → (W.drew.cell? ⟨w.heap.size, 0, none⟩ = some (.int .i64 (A : Int)) ∧ W.drew.cell? ⟨w.heap.size, 1, none⟩ = some (.int .i64 (B : Int)) ∧ W.drew.cell? ⟨w.heap.size, 2, none⟩ = some (.int .i64 (p : Int)) ∧ W.drew.cell? ⟨(w.heap.size + 1), 0, none⟩ = some (.int .i64 (x : Int)) ∧ W.drew.cell? ⟨(w.heap.size + 1), 1, none⟩ = some (.int .i64 (rs p (-(y : Int)) : Int)) ∧ W.drew.cell? ⟨(w.heap.size + 1), 2, none⟩ = some (.int .i64 1) ∧ W.drew.cell? ⟨(w.heap.size + 2), 0, none⟩ = some (.int .i64 (x : Int)) ∧ W.drew.cell? ⟨(w.heap.size + 2), 1, none⟩ = some (.int .i64 (y : Int)) ∧ W.drew.cell? ⟨(w.heap.size + 2), 2, none⟩ = some (.int .i64 1) ∧ W.drew.cell? ⟨(w.heap.size + 3), 0, none⟩ = some (.int .i64 0) ∧ W.drew.cell? ⟨(w.heap.size + 3), 1, none⟩ = some (.int .i64 0) ∧ W.drew.cell? ⟨(w.heap.size + 3), 2, none⟩ = some (.int .i64 0) ∧ Below w1.heap.size w1 W.drew) := fun W ⟨_, _, _, _, _, _, _, _, _, _, _, _, hW⟩ => KM _ (Below.drewN' hW 1)
  have KB : ∀ (W : World), (W.cell? ⟨w.heap.size, 0, none⟩ = some (.int .i64 (A : Int)) ∧ W.cell? ⟨w.heap.size, 1, none⟩ = some (.int .i64 (B : Int)) ∧ W.cell? ⟨w.heap.size, 2, none⟩ = some (.int .i64 (p : Int)) ∧ W.cell? ⟨(w.heap.size + 1), 0, none⟩ = some (.int .i64 (x : Int)) ∧ W.cell? ⟨(w.heap.size + 1), 1, none⟩ = some (.int .i64 (rs p (-(y : Int)) : Int)) ∧ W.cell? ⟨(w.heap.size + 1), 2, none⟩ = some (.int .i64 1) ∧ W.cell? ⟨(w.heap.size + 2), 0, none⟩ = some (.int .i64 (x : Int)) ∧ W.cell? ⟨(w.heap.size + 2), 1, none⟩ = some (.int .i64 (y : Int)) ∧ W.cell? ⟨(w.heap.size + 2), 2, none⟩ = some (.int .i64 1) ∧ W.cell? ⟨(w.heap.size + 3), 0, none⟩ = some (.int .i64 0) ∧ W.cell? ⟨(w.heap.size + 3), 1, none⟩ = some (.int .i64 0) ∧ W.cell? ⟨(w.heap.size + 3), 2, none⟩ = some (.int .i64 0) ∧ Below w1.heap.size w1 W) → Below w1.heap.size w1 W := fun W ⟨_, _, _, _, _, _, _, _, _, _, _, _, hW⟩ => hW
  have KM0 := KM w1.drew ⟨rfl, rfl, rfl, Nat.le_refl _, fun _ _ => rfl⟩
  have KM00 := KM _ (Below.refl _ _)
  replace KC := Lib.hid KC
  replace KA := Lib.hid KA
  replace KD := Lib.hid KD
  replace KB := Lib.hid KB
  clear KM kf0 kf1 kf2 lf ks0 ks1 ks2 ls kt0 kt1 kt2 lt kr0 kr1 kr2 lr
  go_cut [19] (fun s19 wx => s19 = .bool true ∧ Below w1.heap.size w1 wx)
  case first =>
    go_region_held3 (fun w' => w'.cell? ⟨w.heap.size, 0, none⟩ = some (.int .i64 (A : Int)) ∧ w'.cell? ⟨w.heap.size, 1, none⟩ = some (.int .i64 (B : Int)) ∧ w'.cell? ⟨w.heap.size, 2, none⟩ = some (.int .i64 (p : Int)) ∧ w'.cell? ⟨(w.heap.size + 1), 0, none⟩ = some (.int .i64 (x : Int)) ∧ w'.cell? ⟨(w.heap.size + 1), 1, none⟩ = some (.int .i64 (rs p (-(y : Int)) : Int)) ∧ w'.cell? ⟨(w.heap.size + 1), 2, none⟩ = some (.int .i64 1) ∧ w'.cell? ⟨(w.heap.size + 2), 0, none⟩ = some (.int .i64 (x : Int)) ∧ w'.cell? ⟨(w.heap.size + 2), 1, none⟩ = some (.int .i64 (y : Int)) ∧ w'.cell? ⟨(w.heap.size + 2), 2, none⟩ = some (.int .i64 1) ∧ w'.cell? ⟨(w.heap.size + 3), 0, none⟩ = some (.int .i64 0) ∧ w'.cell? ⟨(w.heap.size + 3), 1, none⟩ = some (.int .i64 0) ∧ w'.cell? ⟨(w.heap.size + 3), 2, none⟩ = some (.int .i64 0) ∧ Below w1.heap.size w1 w') ((first | (with_reducible assumption) | ((with_reducible refine KD.out _ ?_); (with_reducible assumption)) | ((with_reducible refine KA.out _ _ ?_); (first | (with_reducible assumption) | ((with_reducible refine KD.out _ ?_); (with_reducible assumption)))) | ((with_reducible refine KC.out _ _ ?_ ?_); (with_reducible assumption); (with_reducible assumption))))
      (first
        | (go_at_call 59; (with_reducible refine (c1.out _).mono ?_); rintro e wC0 ⟨rfl, hbC⟩; have hS0 : wC0.cell? ⟨w.heap.size, 0, none⟩ = some (.int .i64 (A : Int)) ∧ wC0.cell? ⟨w.heap.size, 1, none⟩ = some (.int .i64 (B : Int)) ∧ wC0.cell? ⟨w.heap.size, 2, none⟩ = some (.int .i64 (p : Int)) ∧ wC0.cell? ⟨(w.heap.size + 1), 0, none⟩ = some (.int .i64 (x : Int)) ∧ wC0.cell? ⟨(w.heap.size + 1), 1, none⟩ = some (.int .i64 (rs p (-(y : Int)) : Int)) ∧ wC0.cell? ⟨(w.heap.size + 1), 2, none⟩ = some (.int .i64 1) ∧ wC0.cell? ⟨(w.heap.size + 2), 0, none⟩ = some (.int .i64 (x : Int)) ∧ wC0.cell? ⟨(w.heap.size + 2), 1, none⟩ = some (.int .i64 (y : Int)) ∧ wC0.cell? ⟨(w.heap.size + 2), 2, none⟩ = some (.int .i64 1) ∧ wC0.cell? ⟨(w.heap.size + 3), 0, none⟩ = some (.int .i64 0) ∧ wC0.cell? ⟨(w.heap.size + 3), 1, none⟩ = some (.int .i64 0) ∧ wC0.cell? ⟨(w.heap.size + 3), 2, none⟩ = some (.int .i64 0) ∧ Below w1.heap.size w1 wC0 := KC.out _ _ hbC (by assumption)))
    all_goals (go_wp2_with fail; go_meet)
    all_goals refine ⟨(by first | with_reducible rfl | simp), KB.out _ ?_⟩
    all_goals (first | (with_reducible assumption) | ((with_reducible refine KD.out _ ?_); (with_reducible assumption)))
  case rest =>
  obtain ⟨rfl, hb⟩ := hcut
  clear KM0 KM00 KC KA KD KB
  replace h := Below.step h hb
  replace hxf := hxf.kept hb
  replace hxs := hxs.kept hb
  replace hxt := hxt.kept hb
  replace hxr := hxr.kept hb
  clear hb
  obtain ⟨kf0, kf1, kf2⟩ := hxf.three
  have lf := hxf.lt
  obtain ⟨ks0, ks1, ks2⟩ := hxs.three
  have ls := hxs.lt
  obtain ⟨kt0, kt1, kt2⟩ := hxt.three
  have lt := hxt.lt
  obtain ⟨kr0, kr1, kr2⟩ := hxr.three
  have lr := hxr.lt
  have fr0 := hxr.free 0
  have fr1 := hxr.free 1
  have fr2 := hxr.free 2
  obtain ⟨sr0, sr1, sr2⟩ := (((hxr.set 0 (.int .i64 0)).set 1 (.int .i64 0)).set 2 (.int .i64 0)).three
  go_wp2_with fail
  refine bodyPost_ret (v := .agg #[.int .i64 0, .int .i64 0, .int .i64 0]) (by simp [results, Try.results61, go_sem, sr0, sr1, sr2]) (by rfl) ⟨by rfl, ?_⟩
  exact below_sets3 h (by omega) _ _ _


set_option maxHeartbeats 2000000 in
set_option maxRecDepth 100000 in
theorem sum_gen (A B p x1 y1 x2 y2 l : Nat) (w : World) (h5 : 5 ≤ p) (h9 : p ≤ 997) (hx1 : x1 < p) (hy1 : y1 < p) (hx2 : x2 < p) (hy2 : y2 < p) (hop : ¬ (x1 = x2 ∧ y1 = rs p (-(y2 : Int)))) (hl : l < p) (cs : ∀ W : World, Calls Try.prog 78 #[.agg #[.int .i64 (A : Int), .int .i64 (B : Int), .int .i64 (p : Int)], .agg #[.int .i64 (x1 : Int), .int .i64 (y1 : Int), .int .i64 1], .agg #[.int .i64 (x2 : Int), .int .i64 (y2 : Int), .int .i64 1]] W (GivesI W l)) : Calls Try.prog 61 #[.agg #[.int .i64 (A : Int), .int .i64 (B : Int), .int .i64 (p : Int)], .agg #[.int .i64 (x1 : Int), .int .i64 (y1 : Int), .int .i64 1], .agg #[.int .i64 (x2 : Int), .int .i64 (y2 : Int), .int .i64 1]] w (GivesP w (fsx p l x1 x2) (fsy p l x1 y1 (fsx p l x1 x2)) 1) := by
  have c1 := fun W => opp_core A B p y2 x2 1 W h5 h9 hy2
  replace c1 := Lib.hid c1
  obtain ⟨m1, m2⟩ := nmul' (show l ≤ 996 by omega) (show l ≤ 996 by omega) (M := 992016) rfl
  have c2 := fun W => rmod_any ((l : Int) * l - x1 - x2) p W ⟨by omega, by omega⟩ (by omega) h9
  obtain ⟨X, hX⟩ : ∃ X, X = rs p ((l : Int) * l - x1 - x2) := ⟨_, rfl⟩
  have hXp : X < p := by rw [hX]; exact rs_lt (by omega) _
  have eX : fsx p l x1 x2 = X := hX.symm
  rw [← hX] at c2
  rw [eX]
  obtain ⟨n1, n2⟩ := nmul' (show l ≤ 996 by omega) (show x1 ≤ 996 by omega) (M := 992016) rfl
  obtain ⟨n3, n4⟩ := nmul' (show l ≤ 996 by omega) (show X ≤ 996 by omega) (M := 992016) rfl
  have m3 : (l : Int) * ((x1 : Int) - X) = (l : Int) * x1 - (l : Int) * X := Int.mul_sub _ _ _
  have m4 : -992016 ≤ (l : Int) * ((x1 : Int) - X) ∧ (l : Int) * ((x1 : Int) - X) ≤ 992016 := by rw [m3]; omega
  clear m3 n1 n2 n3 n4
  have c3 := fun W => rmod_any ((l : Int) * ((x1 : Int) - X) - y1) p W ⟨by omega, by omega⟩ (by omega) h9
  obtain ⟨Y, hY⟩ : ∃ Y, Y = rs p ((l : Int) * ((x1 : Int) - X) - y1) := ⟨_, rfl⟩
  have eY : fsy p l x1 y1 X = Y := hY.symm
  rw [← hY] at c3
  rw [eY]
  obtain ⟨N, hN⟩ : ∃ N, N = rs p (-(y2 : Int)) := ⟨_, rfl⟩
  rw [← hN] at c1 hop
  replace cs := Lib.hid cs
  replace c2 := Lib.hid c2
  replace c3 := Lib.hid c3
  clear hX hY eX eY hN
  have ed : ((x1 : Int) == x2 && (y1 : Int) == (N : Int)) = false := by
    rw [Bool.and_eq_false_iff]
    by_cases e : x1 = x2
    · right; exact beq_eq_false_iff_ne.2 (fun k => hop ⟨e, by omega⟩)
    · left; exact beq_eq_false_iff_ne.2 (by omega)
  clear hop
  have h := Below.refl w.heap.size w
  have hA := below_alloc1 w (.cells #[.int .i64 (A : Int), .int .i64 (B : Int), .int .i64 (p : Int)] 62)
  have hxf := Box.new w 62 #[.int .i64 (A : Int), .int .i64 (B : Int), .int .i64 (p : Int)]
  replace h := Below.step h hA
  clear hA
  have hA := below_alloc1 (w.alloc (.cells #[.int .i64 (A : Int), .int .i64 (B : Int), .int .i64 (p : Int)] 62)) (.cells #[.int .i64 (x1 : Int), .int .i64 (y1 : Int), .int .i64 1] 70)
  have hxs := Box.new (w.alloc (.cells #[.int .i64 (A : Int), .int .i64 (B : Int), .int .i64 (p : Int)] 62)) 70 #[.int .i64 (x1 : Int), .int .i64 (y1 : Int), .int .i64 1]
  rw [show (w.alloc (.cells #[.int .i64 (A : Int), .int .i64 (B : Int), .int .i64 (p : Int)] 62)).heap.size = w.heap.size + 1 from by simp] at hxs
  replace h := Below.step h hA
  replace hxf := hxf.kept hA
  clear hA
  have hA := below_alloc1 ((w.alloc (.cells #[.int .i64 (A : Int), .int .i64 (B : Int), .int .i64 (p : Int)] 62)).alloc (.cells #[.int .i64 (x1 : Int), .int .i64 (y1 : Int), .int .i64 1] 70)) (.cells #[.int .i64 (x2 : Int), .int .i64 (y2 : Int), .int .i64 1] 70)
  have hxt := Box.new ((w.alloc (.cells #[.int .i64 (A : Int), .int .i64 (B : Int), .int .i64 (p : Int)] 62)).alloc (.cells #[.int .i64 (x1 : Int), .int .i64 (y1 : Int), .int .i64 1] 70)) 70 #[.int .i64 (x2 : Int), .int .i64 (y2 : Int), .int .i64 1]
  rw [show ((w.alloc (.cells #[.int .i64 (A : Int), .int .i64 (B : Int), .int .i64 (p : Int)] 62)).alloc (.cells #[.int .i64 (x1 : Int), .int .i64 (y1 : Int), .int .i64 1] 70)).heap.size = w.heap.size + 2 from by simp] at hxt
  replace h := Below.step h hA
  replace hxf := hxf.kept hA
  replace hxs := hxs.kept hA
  clear hA
  have hA := below_alloc1 (((w.alloc (.cells #[.int .i64 (A : Int), .int .i64 (B : Int), .int .i64 (p : Int)] 62)).alloc (.cells #[.int .i64 (x1 : Int), .int .i64 (y1 : Int), .int .i64 1] 70)).alloc (.cells #[.int .i64 (x2 : Int), .int .i64 (y2 : Int), .int .i64 1] 70)) (.cells #[.int .i64 0, .int .i64 0, .int .i64 0] 70)
  have hxr := Box.new (((w.alloc (.cells #[.int .i64 (A : Int), .int .i64 (B : Int), .int .i64 (p : Int)] 62)).alloc (.cells #[.int .i64 (x1 : Int), .int .i64 (y1 : Int), .int .i64 1] 70)).alloc (.cells #[.int .i64 (x2 : Int), .int .i64 (y2 : Int), .int .i64 1] 70)) 70 #[.int .i64 0, .int .i64 0, .int .i64 0]
  rw [show (((w.alloc (.cells #[.int .i64 (A : Int), .int .i64 (B : Int), .int .i64 (p : Int)] 62)).alloc (.cells #[.int .i64 (x1 : Int), .int .i64 (y1 : Int), .int .i64 1] 70)).alloc (.cells #[.int .i64 (x2 : Int), .int .i64 (y2 : Int), .int .i64 1] 70)).heap.size = w.heap.size + 3 from by simp] at hxr
  replace h := Below.step h hA
  replace hxf := hxf.kept hA
  replace hxs := hxs.kept hA
  replace hxt := hxt.kept hA
  clear hA
  obtain ⟨kf0, kf1, kf2⟩ := hxf.three
  have lf := hxf.lt
  obtain ⟨ks0, ks1, ks2⟩ := hxs.three
  have ls := hxs.lt
  obtain ⟨kt0, kt1, kt2⟩ := hxt.three
  have lt := hxt.lt
  obtain ⟨kr0, kr1, kr2⟩ := hxr.three
  have lr := hxr.lt
  go_enter Try.func61, Try.ntmps61
  go_wp2_with fail
  go_upto_region 5 with fail
  generalize ((((w.alloc (.cells #[.int .i64 (A : Int), .int .i64 (B : Int), .int .i64 (p : Int)] 62)).alloc (.cells #[.int .i64 (x1 : Int), .int .i64 (y1 : Int), .int .i64 1] 70)).alloc (.cells #[.int .i64 (x2 : Int), .int .i64 (y2 : Int), .int .i64 1] 70)).alloc (.cells #[.int .i64 0, .int .i64 0, .int .i64 0] 70)) = w1 at *
  have KM : ∀ (W : World), Below w1.heap.size w1 W → (W.cell? ⟨w.heap.size, 0, none⟩ = some (.int .i64 (A : Int)) ∧ W.cell? ⟨w.heap.size, 1, none⟩ = some (.int .i64 (B : Int)) ∧ W.cell? ⟨w.heap.size, 2, none⟩ = some (.int .i64 (p : Int)) ∧ W.cell? ⟨(w.heap.size + 1), 0, none⟩ = some (.int .i64 (x1 : Int)) ∧ W.cell? ⟨(w.heap.size + 1), 1, none⟩ = some (.int .i64 (y1 : Int)) ∧ W.cell? ⟨(w.heap.size + 1), 2, none⟩ = some (.int .i64 1) ∧ W.cell? ⟨(w.heap.size + 2), 0, none⟩ = some (.int .i64 (x2 : Int)) ∧ W.cell? ⟨(w.heap.size + 2), 1, none⟩ = some (.int .i64 (y2 : Int)) ∧ W.cell? ⟨(w.heap.size + 2), 2, none⟩ = some (.int .i64 1) ∧ W.cell? ⟨(w.heap.size + 3), 0, none⟩ = some (.int .i64 0) ∧ W.cell? ⟨(w.heap.size + 3), 1, none⟩ = some (.int .i64 0) ∧ W.cell? ⟨(w.heap.size + 3), 2, none⟩ = some (.int .i64 0) ∧ Below w1.heap.size w1 W) := fun W hW => ⟨(hxf.kept hW).three.1, (hxf.kept hW).three.2.1, (hxf.kept hW).three.2.2, (hxs.kept hW).three.1, (hxs.kept hW).three.2.1, (hxs.kept hW).three.2.2, (hxt.kept hW).three.1, (hxt.kept hW).three.2.1, (hxt.kept hW).three.2.2, (hxr.kept hW).three.1, (hxr.kept hW).three.2.1, (hxr.kept hW).three.2.2, hW⟩
  have KC : ∀ (W W' : World), Below W.heap.size W W' → (W.cell? ⟨w.heap.size, 0, none⟩ = some (.int .i64 (A : Int)) ∧ W.cell? ⟨w.heap.size, 1, none⟩ = some (.int .i64 (B : Int)) ∧ W.cell? ⟨w.heap.size, 2, none⟩ = some (.int .i64 (p : Int)) ∧ W.cell? ⟨(w.heap.size + 1), 0, none⟩ = some (.int .i64 (x1 : Int)) ∧ W.cell? ⟨(w.heap.size + 1), 1, none⟩ = some (.int .i64 (y1 : Int)) ∧ W.cell? ⟨(w.heap.size + 1), 2, none⟩ = some (.int .i64 1) ∧ W.cell? ⟨(w.heap.size + 2), 0, none⟩ = some (.int .i64 (x2 : Int)) ∧ W.cell? ⟨(w.heap.size + 2), 1, none⟩ = some (.int .i64 (y2 : Int)) ∧ W.cell? ⟨(w.heap.size + 2), 2, none⟩ = some (.int .i64 1) ∧ W.cell? ⟨(w.heap.size + 3), 0, none⟩ = some (.int .i64 0) ∧ W.cell? ⟨(w.heap.size + 3), 1, none⟩ = some (.int .i64 0) ∧ W.cell? ⟨(w.heap.size + 3), 2, none⟩ = some (.int .i64 0) ∧ Below w1.heap.size w1 W) → (W'.cell? ⟨w.heap.size, 0, none⟩ = some (.int .i64 (A : Int)) ∧ W'.cell? ⟨w.heap.size, 1, none⟩ = some (.int .i64 (B : Int)) ∧ W'.cell? ⟨w.heap.size, 2, none⟩ = some (.int .i64 (p : Int)) ∧ W'.cell? ⟨(w.heap.size + 1), 0, none⟩ = some (.int .i64 (x1 : Int)) ∧ W'.cell? ⟨(w.heap.size + 1), 1, none⟩ = some (.int .i64 (y1 : Int)) ∧ W'.cell? ⟨(w.heap.size + 1), 2, none⟩ = some (.int .i64 1) ∧ W'.cell? ⟨(w.heap.size + 2), 0, none⟩ = some (.int .i64 (x2 : Int)) ∧ W'.cell? ⟨(w.heap.size + 2), 1, none⟩ = some (.int .i64 (y2 : Int)) ∧ W'.cell? ⟨(w.heap.size + 2), 2, none⟩ = some (.int .i64 1) ∧ W'.cell? ⟨(w.heap.size + 3), 0, none⟩ = some (.int .i64 0) ∧ W'.cell? ⟨(w.heap.size + 3), 1, none⟩ = some (.int .i64 0) ∧ W'.cell? ⟨(w.heap.size + 3), 2, none⟩ = some (.int .i64 0) ∧ Below w1.heap.size w1 W') := fun W W' hb ⟨_, _, _, _, _, _, _, _, _, _, _, _, hW⟩ => KM _ (Below.step hW hb)
  have KA : ∀ (W : World) (o : Obj), (W.cell? ⟨w.heap.size, 0, none⟩ = some (.int .i64 (A : Int)) ∧ W.cell? ⟨w.heap.size, 1, none⟩ = some (.int .i64 (B : Int)) ∧ W.cell? ⟨w.heap.size, 2, none⟩ = some (.int .i64 (p : Int)) ∧ W.cell? ⟨(w.heap.size + 1), 0, none⟩ = some (.int .i64 (x1 : Int)) ∧ W.cell? ⟨(w.heap.size + 1), 1, none⟩ = some (.int .i64 (y1 : Int)) ∧ W.cell? ⟨(w.heap.size + 1), 2, none⟩ = some (.int .i64 1) ∧ W.cell? ⟨(w.heap.size + 2), 0, none⟩ = some (.int .i64 (x2 : Int)) ∧ W.cell? ⟨(w.heap.size + 2), 1, none⟩ = some (.int .i64 (y2 : Int)) ∧ W.cell? ⟨(w.heap.size + 2), 2, none⟩ = some (.int .i64 1) ∧ W.cell? ⟨(w.heap.size + 3), 0, none⟩ = some (.int .i64 0) ∧ W.cell? ⟨(w.heap.size + 3), 1, none⟩ = some (.int .i64 0) ∧ W.cell? ⟨(w.heap.size + 3), 2, none⟩ = some (.int .i64 0) ∧ Below w1.heap.size w1 W) → ((W.alloc o).cell? ⟨w.heap.size, 0, none⟩ = some (.int .i64 (A : Int)) ∧ (W.alloc o).cell? ⟨w.heap.size, 1, none⟩ = some (.int .i64 (B : Int)) ∧ (W.alloc o).cell? ⟨w.heap.size, 2, none⟩ = some (.int .i64 (p : Int)) ∧ (W.alloc o).cell? ⟨(w.heap.size + 1), 0, none⟩ = some (.int .i64 (x1 : Int)) ∧ (W.alloc o).cell? ⟨(w.heap.size + 1), 1, none⟩ = some (.int .i64 (y1 : Int)) ∧ (W.alloc o).cell? ⟨(w.heap.size + 1), 2, none⟩ = some (.int .i64 1) ∧ (W.alloc o).cell? ⟨(w.heap.size + 2), 0, none⟩ = some (.int .i64 (x2 : Int)) ∧ (W.alloc o).cell? ⟨(w.heap.size + 2), 1, none⟩ = some (.int .i64 (y2 : Int)) ∧ (W.alloc o).cell? ⟨(w.heap.size + 2), 2, none⟩ = some (.int .i64 1) ∧ (W.alloc o).cell? ⟨(w.heap.size + 3), 0, none⟩ = some (.int .i64 0) ∧ (W.alloc o).cell? ⟨(w.heap.size + 3), 1, none⟩ = some (.int .i64 0) ∧ (W.alloc o).cell? ⟨(w.heap.size + 3), 2, none⟩ = some (.int .i64 0) ∧ Below w1.heap.size w1 (W.alloc o)) := fun W o ⟨_, _, _, _, _, _, _, _, _, _, _, _, hW⟩ => KM _ (Below.step hW (below_alloc1 _ _))
  have KD : ∀ (W : World), (W.cell? ⟨w.heap.size, 0, none⟩ = some (.int .i64 (A : Int)) ∧ W.cell? ⟨w.heap.size, 1, none⟩ = some (.int .i64 (B : Int)) ∧ W.cell? ⟨w.heap.size, 2, none⟩ = some (.int .i64 (p : Int)) ∧ W.cell? ⟨(w.heap.size + 1), 0, none⟩ = some (.int .i64 (x1 : Int)) ∧ W.cell? ⟨(w.heap.size + 1), 1, none⟩ = some (.int .i64 (y1 : Int)) ∧ W.cell? ⟨(w.heap.size + 1), 2, none⟩ = some (.int .i64 1) ∧ W.cell? ⟨(w.heap.size + 2), 0, none⟩ = some (.int .i64 (x2 : Int)) ∧ W.cell? ⟨(w.heap.size + 2), 1, none⟩ = some (.int .i64 (y2 : Int)) ∧ W.cell? ⟨(w.heap.size + 2), 2, none⟩ = some (.int .i64 1) ∧ W.cell? ⟨(w.heap.size + 3), 0, none⟩ = some (.int .i64 0) ∧ W.cell? ⟨(w.heap.size + 3), 1, none⟩ = some (.int .i64 0) ∧ W.cell? ⟨(w.heap.size + 3), 2, none⟩ = some (.int .i64 0) ∧ Below w1.heap.size w1 W) → (W.drew.cell? ⟨w.heap.size, 0, none⟩ = some (.int .i64 (A : Int)) ∧ W.drew.cell? ⟨w.heap.size, 1, none⟩ = some (.int .i64 (B : Int)) ∧ W.drew.cell? ⟨w.heap.size, 2, none⟩ = some (.int .i64 (p : Int)) ∧ W.drew.cell? ⟨(w.heap.size + 1), 0, none⟩ = some (.int .i64 (x1 : Int)) ∧ W.drew.cell? ⟨(w.heap.size + 1), 1, none⟩ = some (.int .i64 (y1 : Int)) ∧ W.drew.cell? ⟨(w.heap.size + 1), 2, none⟩ = some (.int .i64 1) ∧ W.drew.cell? ⟨(w.heap.size + 2), 0, none⟩ = some (.int .i64 (x2 : Int)) ∧ W.drew.cell? ⟨(w.heap.size + 2), 1, none⟩ = some (.int .i64 (y2 : Int)) ∧ W.drew.cell? ⟨(w.heap.size + 2), 2, none⟩ = some (.int .i64 1) ∧ W.drew.cell? ⟨(w.heap.size + 3), 0, none⟩ = some (.int .i64 0) ∧ W.drew.cell? ⟨(w.heap.size + 3), 1, none⟩ = some (.int .i64 0) ∧ W.drew.cell? ⟨(w.heap.size + 3), 2, none⟩ = some (.int .i64 0) ∧ Below w1.heap.size w1 W.drew) := fun W ⟨_, _, _, _, _, _, _, _, _, _, _, _, hW⟩ => KM _ (Below.drewN' hW 1)
  have KB : ∀ (W : World), (W.cell? ⟨w.heap.size, 0, none⟩ = some (.int .i64 (A : Int)) ∧ W.cell? ⟨w.heap.size, 1, none⟩ = some (.int .i64 (B : Int)) ∧ W.cell? ⟨w.heap.size, 2, none⟩ = some (.int .i64 (p : Int)) ∧ W.cell? ⟨(w.heap.size + 1), 0, none⟩ = some (.int .i64 (x1 : Int)) ∧ W.cell? ⟨(w.heap.size + 1), 1, none⟩ = some (.int .i64 (y1 : Int)) ∧ W.cell? ⟨(w.heap.size + 1), 2, none⟩ = some (.int .i64 1) ∧ W.cell? ⟨(w.heap.size + 2), 0, none⟩ = some (.int .i64 (x2 : Int)) ∧ W.cell? ⟨(w.heap.size + 2), 1, none⟩ = some (.int .i64 (y2 : Int)) ∧ W.cell? ⟨(w.heap.size + 2), 2, none⟩ = some (.int .i64 1) ∧ W.cell? ⟨(w.heap.size + 3), 0, none⟩ = some (.int .i64 0) ∧ W.cell? ⟨(w.heap.size + 3), 1, none⟩ = some (.int .i64 0) ∧ W.cell? ⟨(w.heap.size + 3), 2, none⟩ = some (.int .i64 0) ∧ Below w1.heap.size w1 W) → Below w1.heap.size w1 W := fun W ⟨_, _, _, _, _, _, _, _, _, _, _, _, hW⟩ => hW
  have KM0 := KM w1.drew ⟨rfl, rfl, rfl, Nat.le_refl _, fun _ _ => rfl⟩
  have KM00 := KM _ (Below.refl _ _)
  replace KC := Lib.hid KC
  replace KA := Lib.hid KA
  replace KD := Lib.hid KD
  replace KB := Lib.hid KB
  clear KM kf0 kf1 kf2 lf ks0 ks1 ks2 ls kt0 kt1 kt2 lt kr0 kr1 kr2 lr
  go_cut [19] (fun s19 wx => s19 = .bool false ∧ Below w1.heap.size w1 wx)
  case first =>
    go_region_held3 (fun w' => w'.cell? ⟨w.heap.size, 0, none⟩ = some (.int .i64 (A : Int)) ∧ w'.cell? ⟨w.heap.size, 1, none⟩ = some (.int .i64 (B : Int)) ∧ w'.cell? ⟨w.heap.size, 2, none⟩ = some (.int .i64 (p : Int)) ∧ w'.cell? ⟨(w.heap.size + 1), 0, none⟩ = some (.int .i64 (x1 : Int)) ∧ w'.cell? ⟨(w.heap.size + 1), 1, none⟩ = some (.int .i64 (y1 : Int)) ∧ w'.cell? ⟨(w.heap.size + 1), 2, none⟩ = some (.int .i64 1) ∧ w'.cell? ⟨(w.heap.size + 2), 0, none⟩ = some (.int .i64 (x2 : Int)) ∧ w'.cell? ⟨(w.heap.size + 2), 1, none⟩ = some (.int .i64 (y2 : Int)) ∧ w'.cell? ⟨(w.heap.size + 2), 2, none⟩ = some (.int .i64 1) ∧ w'.cell? ⟨(w.heap.size + 3), 0, none⟩ = some (.int .i64 0) ∧ w'.cell? ⟨(w.heap.size + 3), 1, none⟩ = some (.int .i64 0) ∧ w'.cell? ⟨(w.heap.size + 3), 2, none⟩ = some (.int .i64 0) ∧ Below w1.heap.size w1 w') ((first | (with_reducible assumption) | ((with_reducible refine KD.out _ ?_); (with_reducible assumption)) | ((with_reducible refine KA.out _ _ ?_); (first | (with_reducible assumption) | ((with_reducible refine KD.out _ ?_); (with_reducible assumption)))) | ((with_reducible refine KC.out _ _ ?_ ?_); (with_reducible assumption); (with_reducible assumption))))
      (first
        | (go_at_call 59; (with_reducible refine (c1.out _).mono ?_); rintro e wC0 ⟨rfl, hbC⟩; have hS0 : wC0.cell? ⟨w.heap.size, 0, none⟩ = some (.int .i64 (A : Int)) ∧ wC0.cell? ⟨w.heap.size, 1, none⟩ = some (.int .i64 (B : Int)) ∧ wC0.cell? ⟨w.heap.size, 2, none⟩ = some (.int .i64 (p : Int)) ∧ wC0.cell? ⟨(w.heap.size + 1), 0, none⟩ = some (.int .i64 (x1 : Int)) ∧ wC0.cell? ⟨(w.heap.size + 1), 1, none⟩ = some (.int .i64 (y1 : Int)) ∧ wC0.cell? ⟨(w.heap.size + 1), 2, none⟩ = some (.int .i64 1) ∧ wC0.cell? ⟨(w.heap.size + 2), 0, none⟩ = some (.int .i64 (x2 : Int)) ∧ wC0.cell? ⟨(w.heap.size + 2), 1, none⟩ = some (.int .i64 (y2 : Int)) ∧ wC0.cell? ⟨(w.heap.size + 2), 2, none⟩ = some (.int .i64 1) ∧ wC0.cell? ⟨(w.heap.size + 3), 0, none⟩ = some (.int .i64 0) ∧ wC0.cell? ⟨(w.heap.size + 3), 1, none⟩ = some (.int .i64 0) ∧ wC0.cell? ⟨(w.heap.size + 3), 2, none⟩ = some (.int .i64 0) ∧ Below w1.heap.size w1 wC0 := KC.out _ _ hbC (by assumption)))
    all_goals (go_wp2_with fail; go_meet)
    all_goals refine ⟨(by first | with_reducible rfl | simp [ed] | rw [ed]), KB.out _ ?_⟩
    all_goals (first | (with_reducible assumption) | ((with_reducible refine KD.out _ ?_); (with_reducible assumption)))
  case rest =>
  obtain ⟨rfl, hb⟩ := hcut
  clear KM0 KM00 KC KA KD KB
  replace h := Below.step h hb
  replace hxf := hxf.kept hb
  replace hxs := hxs.kept hb
  replace hxt := hxt.kept hb
  replace hxr := hxr.kept hb
  clear hb
  obtain ⟨kf0, kf1, kf2⟩ := hxf.three
  have lf := hxf.lt
  obtain ⟨ks0, ks1, ks2⟩ := hxs.three
  have ls := hxs.lt
  obtain ⟨kt0, kt1, kt2⟩ := hxt.three
  have lt := hxt.lt
  obtain ⟨kr0, kr1, kr2⟩ := hxr.three
  have lr := hxr.lt
  go_wp2_with fail
  refine (cs.out _).mono ?_
  rintro e w2 ⟨rfl, hb⟩
  replace h := Below.step h hb
  replace hxf := hxf.kept hb
  replace hxs := hxs.kept hb
  replace hxt := hxt.kept hb
  replace hxr := hxr.kept hb
  clear hb kf0 kf1 kf2 lf ks0 ks1 ks2 ls kt0 kt1 kt2 lt kr0 kr1 kr2 lr
  obtain ⟨kf0, kf1, kf2⟩ := hxf.three
  have lf := hxf.lt
  obtain ⟨ks0, ks1, ks2⟩ := hxs.three
  have ls := hxs.lt
  obtain ⟨kt0, kt1, kt2⟩ := hxt.three
  have lt := hxt.lt
  obtain ⟨kr0, kr1, kr2⟩ := hxr.three
  have lr := hxr.lt
  go_wp2_with fail
  refine (c2.out _).mono ?_
  rintro e w3 ⟨rfl, rfl⟩
  go_wp2_with fail
  refine (c3.out _).mono ?_
  rintro e w4 ⟨rfl, rfl⟩
  have fr0 := hxr.free 0
  have fr1 := hxr.free 1
  have fr2 := hxr.free 2
  obtain ⟨sr0, sr1, sr2⟩ := (((hxr.set 0 (.int .i64 (X : Int))).set 1 (.int .i64 (Y : Int))).set 2 (.int .i64 1)).three
  go_wp2_with fail
  refine bodyPost_ret (v := .agg #[.int .i64 (X : Int), .int .i64 (Y : Int), .int .i64 1]) (by simp [results, Try.results61, go_sem, sr0, sr1, sr2]) (by rfl) ⟨by rfl, ?_⟩
  exact below_sets3 h (by omega) _ _ _

end Go.Proofs.Ytbgoiflkpefckaa
