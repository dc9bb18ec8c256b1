/- The model's ptAdd (written by wip/gen/ptb.py). -/
import Derived.Test.YtabcnkobojkdhaaDoorPtA
import Derived.Deep.RegionHeld3
import Derived.Deep.DeepCutAuto
import Derived.BigQuiet
namespace Go.Proofs.YtabcnkobojkdhaaDoor
open Go.RowKit Go.Joins

set_option maxHeartbeats 1000000 in
set_option maxRecDepth 100000 in
theorem ptAddS_p0 (a b : Int) (q : P3) (w : World) : Calls Tryd.prog 32 #[.agg #[.int .i64 a, .int .i64 b], .agg #[.int .i64 0, .int .i64 0, .int .i64 0], .agg #[.int .i64 q.x, .int .i64 q.y, .int .i64 q.e]] w (GivesPB w q.x q.y q.e true) := by
  have h := Below.refl w.heap.size w
  have hA := below_alloc1 w (.cells #[.int .i64 a, .int .i64 b] 29)
  have hxc := Box.new w 29 #[.int .i64 a, .int .i64 b]
  replace h := Below.step h hA
  clear hA
  have hA := below_alloc1 (w.alloc (.cells #[.int .i64 a, .int .i64 b] 29)) (.cells #[.int .i64 0, .int .i64 0, .int .i64 0] 26)
  have hxp := Box.new (w.alloc (.cells #[.int .i64 a, .int .i64 b] 29)) 26 #[.int .i64 0, .int .i64 0, .int .i64 0]
  rw [show (w.alloc (.cells #[.int .i64 a, .int .i64 b] 29)).heap.size = w.heap.size + 1 from by simp] at hxp
  replace h := Below.step h hA
  replace hxc := hxc.kept hA
  clear hA
  have hA := below_alloc1 ((w.alloc (.cells #[.int .i64 a, .int .i64 b] 29)).alloc (.cells #[.int .i64 0, .int .i64 0, .int .i64 0] 26)) (.cells #[.int .i64 q.x, .int .i64 q.y, .int .i64 q.e] 26)
  have hxq := Box.new ((w.alloc (.cells #[.int .i64 a, .int .i64 b] 29)).alloc (.cells #[.int .i64 0, .int .i64 0, .int .i64 0] 26)) 26 #[.int .i64 q.x, .int .i64 q.y, .int .i64 q.e]
  rw [show ((w.alloc (.cells #[.int .i64 a, .int .i64 b] 29)).alloc (.cells #[.int .i64 0, .int .i64 0, .int .i64 0] 26)).heap.size = w.heap.size + 2 from by simp] at hxq
  replace h := Below.step h hA
  replace hxc := hxc.kept hA
  replace hxp := hxp.kept hA
  clear hA
  have hA := below_alloc1 (((w.alloc (.cells #[.int .i64 a, .int .i64 b] 29)).alloc (.cells #[.int .i64 0, .int .i64 0, .int .i64 0] 26)).alloc (.cells #[.int .i64 q.x, .int .i64 q.y, .int .i64 q.e] 26)) (.cells #[.int .i64 0, .int .i64 0, .int .i64 0] 26)
  have hxr := Box.new (((w.alloc (.cells #[.int .i64 a, .int .i64 b] 29)).alloc (.cells #[.int .i64 0, .int .i64 0, .int .i64 0] 26)).alloc (.cells #[.int .i64 q.x, .int .i64 q.y, .int .i64 q.e] 26)) 26 #[.int .i64 0, .int .i64 0, .int .i64 0]
  rw [show (((w.alloc (.cells #[.int .i64 a, .int .i64 b] 29)).alloc (.cells #[.int .i64 0, .int .i64 0, .int .i64 0] 26)).alloc (.cells #[.int .i64 q.x, .int .i64 q.y, .int .i64 q.e] 26)).heap.size = w.heap.size + 3 from by simp] at hxr
  replace h := Below.step h hA
  replace hxc := hxc.kept hA
  replace hxp := hxp.kept hA
  replace hxq := hxq.kept hA
  clear hA
  obtain ⟨kc0, kc1⟩ := hxc.two
  have lc := hxc.lt
  obtain ⟨kp0, kp1, kp2⟩ := hxp.three
  have lp := hxp.lt
  obtain ⟨kq0, kq1, kq2⟩ := hxq.three
  have lq := hxq.lt
  obtain ⟨kr0, kr1, kr2⟩ := hxr.three
  have lr := hxr.lt
  go_enter Tryd.func32, Tryd.ntmps32
  go_wp2_with fail
  refine bodyPost_ret (v := .tuple #[.agg #[.int .i64 q.x, .int .i64 q.y, .int .i64 q.e], .bool true]) (by simp [results, Tryd.results32, go_sem]) (by rfl) ⟨by rfl, ?_⟩
  exact Below.step (Below.step (Below.step (below_alloc1 _ _) (below_alloc1 _ _)) (below_alloc1 _ _)) (below_alloc1 _ _)


set_option maxHeartbeats 1000000 in
set_option maxRecDepth 100000 in
theorem ptAddS_q0 (a b : Int) (p : P3) (w : World) (hp : p.e ≠ 0) : Calls Tryd.prog 32 #[.agg #[.int .i64 a, .int .i64 b], .agg #[.int .i64 p.x, .int .i64 p.y, .int .i64 p.e], .agg #[.int .i64 0, .int .i64 0, .int .i64 0]] w (GivesPB w p.x p.y p.e true) := by
  have e0 : (p.e == 0) = false := by simp [hp]
  clear hp
  have h := Below.refl w.heap.size w
  have hA := below_alloc1 w (.cells #[.int .i64 a, .int .i64 b] 29)
  have hxc := Box.new w 29 #[.int .i64 a, .int .i64 b]
  replace h := Below.step h hA
  clear hA
  have hA := below_alloc1 (w.alloc (.cells #[.int .i64 a, .int .i64 b] 29)) (.cells #[.int .i64 p.x, .int .i64 p.y, .int .i64 p.e] 26)
  have hxp := Box.new (w.alloc (.cells #[.int .i64 a, .int .i64 b] 29)) 26 #[.int .i64 p.x, .int .i64 p.y, .int .i64 p.e]
  rw [show (w.alloc (.cells #[.int .i64 a, .int .i64 b] 29)).heap.size = w.heap.size + 1 from by simp] at hxp
  replace h := Below.step h hA
  replace hxc := hxc.kept hA
  clear hA
  have hA := below_alloc1 ((w.alloc (.cells #[.int .i64 a, .int .i64 b] 29)).alloc (.cells #[.int .i64 p.x, .int .i64 p.y, .int .i64 p.e] 26)) (.cells #[.int .i64 0, .int .i64 0, .int .i64 0] 26)
  have hxq := Box.new ((w.alloc (.cells #[.int .i64 a, .int .i64 b] 29)).alloc (.cells #[.int .i64 p.x, .int .i64 p.y, .int .i64 p.e] 26)) 26 #[.int .i64 0, .int .i64 0, .int .i64 0]
  rw [show ((w.alloc (.cells #[.int .i64 a, .int .i64 b] 29)).alloc (.cells #[.int .i64 p.x, .int .i64 p.y, .int .i64 p.e] 26)).heap.size = w.heap.size + 2 from by simp] at hxq
  replace h := Below.step h hA
  replace hxc := hxc.kept hA
  replace hxp := hxp.kept hA
  clear hA
  have hA := below_alloc1 (((w.alloc (.cells #[.int .i64 a, .int .i64 b] 29)).alloc (.cells #[.int .i64 p.x, .int .i64 p.y, .int .i64 p.e] 26)).alloc (.cells #[.int .i64 0, .int .i64 0, .int .i64 0] 26)) (.cells #[.int .i64 0, .int .i64 0, .int .i64 0] 26)
  have hxr := Box.new (((w.alloc (.cells #[.int .i64 a, .int .i64 b] 29)).alloc (.cells #[.int .i64 p.x, .int .i64 p.y, .int .i64 p.e] 26)).alloc (.cells #[.int .i64 0, .int .i64 0, .int .i64 0] 26)) 26 #[.int .i64 0, .int .i64 0, .int .i64 0]
  rw [show (((w.alloc (.cells #[.int .i64 a, .int .i64 b] 29)).alloc (.cells #[.int .i64 p.x, .int .i64 p.y, .int .i64 p.e] 26)).alloc (.cells #[.int .i64 0, .int .i64 0, .int .i64 0] 26)).heap.size = w.heap.size + 3 from by simp] at hxr
  replace h := Below.step h hA
  replace hxc := hxc.kept hA
  replace hxp := hxp.kept hA
  replace hxq := hxq.kept hA
  clear hA
  obtain ⟨kc0, kc1⟩ := hxc.two
  have lc := hxc.lt
  obtain ⟨kp0, kp1, kp2⟩ := hxp.three
  have lp := hxp.lt
  obtain ⟨kq0, kq1, kq2⟩ := hxq.three
  have lq := hxq.lt
  obtain ⟨kr0, kr1, kr2⟩ := hxr.three
  have lr := hxr.lt
  go_enter Tryd.func32, Tryd.ntmps32
  go_wp2_with fail
  refine bodyPost_ret (v := .tuple #[.agg #[.int .i64 p.x, .int .i64 p.y, .int .i64 p.e], .bool true]) (by simp [results, Tryd.results32, go_sem]) (by rfl) ⟨by rfl, ?_⟩
  exact Below.step (Below.step (Below.step (below_alloc1 _ _) (below_alloc1 _ _)) (below_alloc1 _ _)) (below_alloc1 _ _)


set_option maxHeartbeats 1000000 in
set_option maxRecDepth 100000 in
theorem ptAddS_v (a b : Int) (p q : P3) (w : World) (hp : p.e ≠ 0) (hq : q.e ≠ 0) (c1 : ∀ W : World, Calls Tryd.prog 41 #[.agg #[.int .i64 a, .int .i64 b], .agg #[.int .i64 p.x, .int .i64 p.y, .int .i64 p.e], .agg #[.int .i64 q.x, .int .i64 q.y, .int .i64 q.e]] W (GivesII W 1 0)) : Calls Tryd.prog 32 #[.agg #[.int .i64 a, .int .i64 b], .agg #[.int .i64 p.x, .int .i64 p.y, .int .i64 p.e], .agg #[.int .i64 q.x, .int .i64 q.y, .int .i64 q.e]] w (GivesPB w 0 0 0 true) := by
  have e0 : (p.e == 0) = false := by simp [hp]
  have e1 : (q.e == 0) = false := by simp [hq]
  clear hp hq
  replace c1 := Lib.hid c1
  have h := Below.refl w.heap.size w
  have hA := below_alloc1 w (.cells #[.int .i64 a, .int .i64 b] 29)
  have hxc := Box.new w 29 #[.int .i64 a, .int .i64 b]
  replace h := Below.step h hA
  clear hA
  have hA := below_alloc1 (w.alloc (.cells #[.int .i64 a, .int .i64 b] 29)) (.cells #[.int .i64 p.x, .int .i64 p.y, .int .i64 p.e] 26)
  have hxp := Box.new (w.alloc (.cells #[.int .i64 a, .int .i64 b] 29)) 26 #[.int .i64 p.x, .int .i64 p.y, .int .i64 p.e]
  rw [show (w.alloc (.cells #[.int .i64 a, .int .i64 b] 29)).heap.size = w.heap.size + 1 from by simp] at hxp
  replace h := Below.step h hA
  replace hxc := hxc.kept hA
  clear hA
  have hA := below_alloc1 ((w.alloc (.cells #[.int .i64 a, .int .i64 b] 29)).alloc (.cells #[.int .i64 p.x, .int .i64 p.y, .int .i64 p.e] 26)) (.cells #[.int .i64 q.x, .int .i64 q.y, .int .i64 q.e] 26)
  have hxq := Box.new ((w.alloc (.cells #[.int .i64 a, .int .i64 b] 29)).alloc (.cells #[.int .i64 p.x, .int .i64 p.y, .int .i64 p.e] 26)) 26 #[.int .i64 q.x, .int .i64 q.y, .int .i64 q.e]
  rw [show ((w.alloc (.cells #[.int .i64 a, .int .i64 b] 29)).alloc (.cells #[.int .i64 p.x, .int .i64 p.y, .int .i64 p.e] 26)).heap.size = w.heap.size + 2 from by simp] at hxq
  replace h := Below.step h hA
  replace hxc := hxc.kept hA
  replace hxp := hxp.kept hA
  clear hA
  have hA := below_alloc1 (((w.alloc (.cells #[.int .i64 a, .int .i64 b] 29)).alloc (.cells #[.int .i64 p.x, .int .i64 p.y, .int .i64 p.e] 26)).alloc (.cells #[.int .i64 q.x, .int .i64 q.y, .int .i64 q.e] 26)) (.cells #[.int .i64 0, .int .i64 0, .int .i64 0] 26)
  have hxr := Box.new (((w.alloc (.cells #[.int .i64 a, .int .i64 b] 29)).alloc (.cells #[.int .i64 p.x, .int .i64 p.y, .int .i64 p.e] 26)).alloc (.cells #[.int .i64 q.x, .int .i64 q.y, .int .i64 q.e] 26)) 26 #[.int .i64 0, .int .i64 0, .int .i64 0]
  rw [show (((w.alloc (.cells #[.int .i64 a, .int .i64 b] 29)).alloc (.cells #[.int .i64 p.x, .int .i64 p.y, .int .i64 p.e] 26)).alloc (.cells #[.int .i64 q.x, .int .i64 q.y, .int .i64 q.e] 26)).heap.size = w.heap.size + 3 from by simp] at hxr
  replace h := Below.step h hA
  replace hxc := hxc.kept hA
  replace hxp := hxp.kept hA
  replace hxq := hxq.kept hA
  clear hA
  obtain ⟨kc0, kc1⟩ := hxc.two
  have lc := hxc.lt
  obtain ⟨kp0, kp1, kp2⟩ := hxp.three
  have lp := hxp.lt
  obtain ⟨kq0, kq1, kq2⟩ := hxq.three
  have lq := hxq.lt
  obtain ⟨kr0, kr1, kr2⟩ := hxr.three
  have lr := hxr.lt
  go_enter Tryd.func32, Tryd.ntmps32
  go_wp2_with fail
  refine (c1.out _).mono ?_
  rintro e w1 ⟨rfl, hb⟩
  replace h := Below.step h hb
  replace hxc := hxc.kept hb
  replace hxp := hxp.kept hb
  replace hxq := hxq.kept hb
  replace hxr := hxr.kept hb
  clear hb kc0 kc1 lc kp0 kp1 kp2 lp kq0 kq1 kq2 lq kr0 kr1 kr2 lr
  obtain ⟨kc0, kc1⟩ := hxc.two
  have lc := hxc.lt
  obtain ⟨kp0, kp1, kp2⟩ := hxp.three
  have lp := hxp.lt
  obtain ⟨kq0, kq1, kq2⟩ := hxq.three
  have lq := hxq.lt
  obtain ⟨kr0, kr1, kr2⟩ := hxr.three
  have lr := hxr.lt
  have fr0 := hxr.free 0
  have fr1 := hxr.free 1
  have fr2 := hxr.free 2
  obtain ⟨sr0, sr1, sr2⟩ := (((hxr.set 0 (.int .i64 0)).set 1 (.int .i64 0)).set 2 (.int .i64 0)).three
  go_wp2_with fail
  refine bodyPost_ret (v := .tuple #[.agg #[.int .i64 0, .int .i64 0, .int .i64 0], .bool true]) (by simp [results, Tryd.results32, go_sem, sr0, sr1, sr2]) (by rfl) ⟨by rfl, ?_⟩
  exact below_sets3 h (by omega) _ _ _


set_option maxHeartbeats 1000000 in
set_option maxRecDepth 100000 in
theorem ptAddS_noD (a b : Int) (p q : P3) (w : World) (hp : p.e ≠ 0) (hq : q.e ≠ 0) (N D : Int) (c1 : ∀ W : World, Calls Tryd.prog 41 #[.agg #[.int .i64 a, .int .i64 b], .agg #[.int .i64 p.x, .int .i64 p.y, .int .i64 p.e], .agg #[.int .i64 q.x, .int .i64 q.y, .int .i64 q.e]] W (GivesII W N D)) (d2 : 8000 < D) : Calls Tryd.prog 32 #[.agg #[.int .i64 a, .int .i64 b], .agg #[.int .i64 p.x, .int .i64 p.y, .int .i64 p.e], .agg #[.int .i64 q.x, .int .i64 q.y, .int .i64 q.e]] w (GivesPB w 0 0 0 false) := by
  have e0 : (p.e == 0) = false := by simp [hp]
  have e1 : (q.e == 0) = false := by simp [hq]
  clear hp hq
  replace c1 := Lib.hid c1
  have e2 : (D == 0) = false := by simp; omega
  have h := Below.refl w.heap.size w
  have hA := below_alloc1 w (.cells #[.int .i64 a, .int .i64 b] 29)
  have hxc := Box.new w 29 #[.int .i64 a, .int .i64 b]
  replace h := Below.step h hA
  clear hA
  have hA := below_alloc1 (w.alloc (.cells #[.int .i64 a, .int .i64 b] 29)) (.cells #[.int .i64 p.x, .int .i64 p.y, .int .i64 p.e] 26)
  have hxp := Box.new (w.alloc (.cells #[.int .i64 a, .int .i64 b] 29)) 26 #[.int .i64 p.x, .int .i64 p.y, .int .i64 p.e]
  rw [show (w.alloc (.cells #[.int .i64 a, .int .i64 b] 29)).heap.size = w.heap.size + 1 from by simp] at hxp
  replace h := Below.step h hA
  replace hxc := hxc.kept hA
  clear hA
  have hA := below_alloc1 ((w.alloc (.cells #[.int .i64 a, .int .i64 b] 29)).alloc (.cells #[.int .i64 p.x, .int .i64 p.y, .int .i64 p.e] 26)) (.cells #[.int .i64 q.x, .int .i64 q.y, .int .i64 q.e] 26)
  have hxq := Box.new ((w.alloc (.cells #[.int .i64 a, .int .i64 b] 29)).alloc (.cells #[.int .i64 p.x, .int .i64 p.y, .int .i64 p.e] 26)) 26 #[.int .i64 q.x, .int .i64 q.y, .int .i64 q.e]
  rw [show ((w.alloc (.cells #[.int .i64 a, .int .i64 b] 29)).alloc (.cells #[.int .i64 p.x, .int .i64 p.y, .int .i64 p.e] 26)).heap.size = w.heap.size + 2 from by simp] at hxq
  replace h := Below.step h hA
  replace hxc := hxc.kept hA
  replace hxp := hxp.kept hA
  clear hA
  have hA := below_alloc1 (((w.alloc (.cells #[.int .i64 a, .int .i64 b] 29)).alloc (.cells #[.int .i64 p.x, .int .i64 p.y, .int .i64 p.e] 26)).alloc (.cells #[.int .i64 q.x, .int .i64 q.y, .int .i64 q.e] 26)) (.cells #[.int .i64 0, .int .i64 0, .int .i64 0] 26)
  have hxr := Box.new (((w.alloc (.cells #[.int .i64 a, .int .i64 b] 29)).alloc (.cells #[.int .i64 p.x, .int .i64 p.y, .int .i64 p.e] 26)).alloc (.cells #[.int .i64 q.x, .int .i64 q.y, .int .i64 q.e] 26)) 26 #[.int .i64 0, .int .i64 0, .int .i64 0]
  rw [show (((w.alloc (.cells #[.int .i64 a, .int .i64 b] 29)).alloc (.cells #[.int .i64 p.x, .int .i64 p.y, .int .i64 p.e] 26)).alloc (.cells #[.int .i64 q.x, .int .i64 q.y, .int .i64 q.e] 26)).heap.size = w.heap.size + 3 from by simp] at hxr
  replace h := Below.step h hA
  replace hxc := hxc.kept hA
  replace hxp := hxp.kept hA
  replace hxq := hxq.kept hA
  clear hA
  obtain ⟨kc0, kc1⟩ := hxc.two
  have lc := hxc.lt
  obtain ⟨kp0, kp1, kp2⟩ := hxp.three
  have lp := hxp.lt
  obtain ⟨kq0, kq1, kq2⟩ := hxq.three
  have lq := hxq.lt
  obtain ⟨kr0, kr1, kr2⟩ := hxr.three
  have lr := hxr.lt
  go_enter Tryd.func32, Tryd.ntmps32
  go_wp2_with fail
  refine (c1.out _).mono ?_
  rintro e w1 ⟨rfl, hb⟩
  replace h := Below.step h hb
  replace hxc := hxc.kept hb
  replace hxp := hxp.kept hb
  replace hxq := hxq.kept hb
  replace hxr := hxr.kept hb
  clear hb kc0 kc1 lc kp0 kp1 kp2 lp kq0 kq1 kq2 lq kr0 kr1 kr2 lr
  obtain ⟨kc0, kc1⟩ := hxc.two
  have lc := hxc.lt
  obtain ⟨kp0, kp1, kp2⟩ := hxp.three
  have lp := hxp.lt
  obtain ⟨kq0, kq1, kq2⟩ := hxq.three
  have lq := hxq.lt
  obtain ⟨kr0, kr1, kr2⟩ := hxr.three
  have lr := hxr.lt
  have fr0 := hxr.free 0
  have fr1 := hxr.free 1
  have fr2 := hxr.free 2
  obtain ⟨sr0, sr1, sr2⟩ := (((hxr.set 0 (.int .i64 0)).set 1 (.int .i64 0)).set 2 (.int .i64 0)).three
  go_wp2_with fail
  refine bodyPost_ret (v := .tuple #[.agg #[.int .i64 0, .int .i64 0, .int .i64 0], .bool false]) (by simp [results, Tryd.results32, go_sem, sr0, sr1, sr2]) (by rfl) ⟨by rfl, ?_⟩
  exact below_sets3 h (by omega) _ _ _


set_option maxHeartbeats 1000000 in
set_option maxRecDepth 100000 in
theorem ptAddS_noN (a b : Int) (p q : P3) (w : World) (hp : p.e ≠ 0) (hq : q.e ≠ 0) (N D : Int) (c1 : ∀ W : World, Calls Tryd.prog 41 #[.agg #[.int .i64 a, .int .i64 b], .agg #[.int .i64 p.x, .int .i64 p.y, .int .i64 p.e], .agg #[.int .i64 q.x, .int .i64 q.y, .int .i64 q.e]] W (GivesII W N D)) (d1 : 1 ≤ D) (d2 : D ≤ 8000) (n0 : -4000000000000 ≤ N ∧ N ≤ 4000000000000) (g : 200 * D < (N.natAbs : Int)) : Calls Tryd.prog 32 #[.agg #[.int .i64 a, .int .i64 b], .agg #[.int .i64 p.x, .int .i64 p.y, .int .i64 p.e], .agg #[.int .i64 q.x, .int .i64 q.y, .int .i64 q.e]] w (GivesPB w 0 0 0 false) := by
  have e0 : (p.e == 0) = false := by simp [hp]
  have e1 : (q.e == 0) = false := by simp [hq]
  clear hp hq
  replace c1 := Lib.hid c1
  have e2 : (D == 0) = false := by simp; omega
  have c9 := fun W => l1Abs_any N W (by omega) (by omega)
  replace c9 := Lib.hid c9
  have h := Below.refl w.heap.size w
  have hA := below_alloc1 w (.cells #[.int .i64 a, .int .i64 b] 29)
  have hxc := Box.new w 29 #[.int .i64 a, .int .i64 b]
  replace h := Below.step h hA
  clear hA
  have hA := below_alloc1 (w.alloc (.cells #[.int .i64 a, .int .i64 b] 29)) (.cells #[.int .i64 p.x, .int .i64 p.y, .int .i64 p.e] 26)
  have hxp := Box.new (w.alloc (.cells #[.int .i64 a, .int .i64 b] 29)) 26 #[.int .i64 p.x, .int .i64 p.y, .int .i64 p.e]
  rw [show (w.alloc (.cells #[.int .i64 a, .int .i64 b] 29)).heap.size = w.heap.size + 1 from by simp] at hxp
  replace h := Below.step h hA
  replace hxc := hxc.kept hA
  clear hA
  have hA := below_alloc1 ((w.alloc (.cells #[.int .i64 a, .int .i64 b] 29)).alloc (.cells #[.int .i64 p.x, .int .i64 p.y, .int .i64 p.e] 26)) (.cells #[.int .i64 q.x, .int .i64 q.y, .int .i64 q.e] 26)
  have hxq := Box.new ((w.alloc (.cells #[.int .i64 a, .int .i64 b] 29)).alloc (.cells #[.int .i64 p.x, .int .i64 p.y, .int .i64 p.e] 26)) 26 #[.int .i64 q.x, .int .i64 q.y, .int .i64 q.e]
  rw [show ((w.alloc (.cells #[.int .i64 a, .int .i64 b] 29)).alloc (.cells #[.int .i64 p.x, .int .i64 p.y, .int .i64 p.e] 26)).heap.size = w.heap.size + 2 from by simp] at hxq
  replace h := Below.step h hA
  replace hxc := hxc.kept hA
  replace hxp := hxp.kept hA
  clear hA
  have hA := below_alloc1 (((w.alloc (.cells #[.int .i64 a, .int .i64 b] 29)).alloc (.cells #[.int .i64 p.x, .int .i64 p.y, .int .i64 p.e] 26)).alloc (.cells #[.int .i64 q.x, .int .i64 q.y, .int .i64 q.e] 26)) (.cells #[.int .i64 0, .int .i64 0, .int .i64 0] 26)
  have hxr := Box.new (((w.alloc (.cells #[.int .i64 a, .int .i64 b] 29)).alloc (.cells #[.int .i64 p.x, .int .i64 p.y, .int .i64 p.e] 26)).alloc (.cells #[.int .i64 q.x, .int .i64 q.y, .int .i64 q.e] 26)) 26 #[.int .i64 0, .int .i64 0, .int .i64 0]
  rw [show (((w.alloc (.cells #[.int .i64 a, .int .i64 b] 29)).alloc (.cells #[.int .i64 p.x, .int .i64 p.y, .int .i64 p.e] 26)).alloc (.cells #[.int .i64 q.x, .int .i64 q.y, .int .i64 q.e] 26)).heap.size = w.heap.size + 3 from by simp] at hxr
  replace h := Below.step h hA
  replace hxc := hxc.kept hA
  replace hxp := hxp.kept hA
  replace hxq := hxq.kept hA
  clear hA
  obtain ⟨kc0, kc1⟩ := hxc.two
  have lc := hxc.lt
  obtain ⟨kp0, kp1, kp2⟩ := hxp.three
  have lp := hxp.lt
  obtain ⟨kq0, kq1, kq2⟩ := hxq.three
  have lq := hxq.lt
  obtain ⟨kr0, kr1, kr2⟩ := hxr.three
  have lr := hxr.lt
  go_enter Tryd.func32, Tryd.ntmps32
  go_wp2_with fail
  refine (c1.out _).mono ?_
  rintro e w1 ⟨rfl, hb⟩
  replace h := Below.step h hb
  replace hxc := hxc.kept hb
  replace hxp := hxp.kept hb
  replace hxq := hxq.kept hb
  replace hxr := hxr.kept hb
  clear hb kc0 kc1 lc kp0 kp1 kp2 lp kq0 kq1 kq2 lq kr0 kr1 kr2 lr
  obtain ⟨kc0, kc1⟩ := hxc.two
  have lc := hxc.lt
  obtain ⟨kp0, kp1, kp2⟩ := hxp.three
  have lp := hxp.lt
  obtain ⟨kq0, kq1, kq2⟩ := hxq.three
  have lq := hxq.lt
  obtain ⟨kr0, kr1, kr2⟩ := hxr.three
  have lr := hxr.lt
  go_wp2_with fail
  have fr0 := hxr.free 0
  have fr1 := hxr.free 1
  have fr2 := hxr.free 2
  obtain ⟨sr0, sr1, sr2⟩ := (((hxr.set 0 (.int .i64 0)).set 1 (.int .i64 0)).set 2 (.int .i64 0)).three
  refine (c9.out _).mono ?_
  rintro e w2 ⟨rfl, rfl⟩
  go_wp2_with fail
  refine bodyPost_ret (v := .tuple #[.agg #[.int .i64 0, .int .i64 0, .int .i64 0], .bool false]) (by simp [results, Tryd.results32, go_sem, sr0, sr1, sr2]) (by rfl) ⟨by rfl, ?_⟩
  exact below_sets3 h (by omega) _ _ _


set_option maxHeartbeats 2000000 in
set_option maxRecDepth 100000 in
theorem ptAddS_noR (a b : Int) (p q : P3) (w : World) (hp : p.e ≠ 0) (hq : q.e ≠ 0) (N D : Int) (c1 : ∀ W : World, Calls Tryd.prog 41 #[.agg #[.int .i64 a, .int .i64 b], .agg #[.int .i64 p.x, .int .i64 p.y, .int .i64 p.e], .agg #[.int .i64 q.x, .int .i64 q.y, .int .i64 q.e]] W (GivesII W N D)) (d1 : 1 ≤ D) (d2 : D ≤ 8000) (n1 : -(200 * D) ≤ N) (n2 : N ≤ 200 * D) (fp : (-10000 ≤ p.x ∧ p.x ≤ 10000) ∧ (1 ≤ p.e ∧ p.e ≤ 20)) (fq : (-10000 ≤ q.x ∧ q.x ≤ 10000) ∧ (1 ≤ q.e ∧ q.e ≤ 20)) (P Q E : Int) (c2 : ∀ W : World, Calls Tryd.prog 48 #[.int .i64 (N * N * (p.e * p.e) * (q.e * q.e) - p.x * D * D * (q.e * q.e) - q.x * D * D * (p.e * p.e)), .int .i64 (D * D * (p.e * p.e) * (q.e * q.e))] W (GivesII W P Q)) (c3 : ∀ W : World, Calls Tryd.prog 49 #[.int .i64 Q] W fun e w' => e = .returned (.int .i64 E) ∧ W = w') (h1 : 1 ≤ E) (h2 : E ≤ 4000000) (g : E * E ≠ Q) : Calls Tryd.prog 32 #[.agg #[.int .i64 a, .int .i64 b], .agg #[.int .i64 p.x, .int .i64 p.y, .int .i64 p.e], .agg #[.int .i64 q.x, .int .i64 q.y, .int .i64 q.e]] w (GivesPB w 0 0 0 false) := by
  have e0 : (p.e == 0) = false := by simp [hp]
  have e1 : (q.e == 0) = false := by simp [hq]
  clear hp hq
  replace c1 := Lib.hid c1
  have e2 : (D == 0) = false := by simp; omega
  have c9 := fun W => l1Abs_any N W (by omega) (by omega)
  replace c9 := Lib.hid c9
  replace c2 := Lib.hid c2
  replace c3 := Lib.hid c3
  have e3 : ¬ (N.natAbs : Int) > 200 * D := by omega
  obtain ⟨⟨a1, a2⟩, ⟨a3, a4⟩, ⟨a5, a6⟩, ⟨a7, a8⟩, ⟨b1, b2⟩, ⟨b3, b4⟩, ⟨b5, b6⟩, ⟨b7, b8⟩, ⟨u1, u2⟩, ⟨u3, u4⟩, ⟨u5, u6⟩, ⟨u7, u8⟩⟩ := t_bd (n := N) fp fq ⟨d1, d2⟩ (by omega)
  have ee1 := (ptE_bd fp.2).1
  have ee2 := (ptE_bd fq.2).1
  obtain ⟨⟨x1, x2⟩, ⟨x3, x4⟩⟩ := fp
  obtain ⟨⟨y1, y2⟩, ⟨y3, y4⟩⟩ := fq
  have e5 : (E * E != Q) = true := by simp [g]
  have e6 := mul_bd1 h1 h2 h1 h2
  clear g
  have h := Below.refl w.heap.size w
  have hA := below_alloc1 w (.cells #[.int .i64 a, .int .i64 b] 29)
  have hxc := Box.new w 29 #[.int .i64 a, .int .i64 b]
  replace h := Below.step h hA
  clear hA
  have hA := below_alloc1 (w.alloc (.cells #[.int .i64 a, .int .i64 b] 29)) (.cells #[.int .i64 p.x, .int .i64 p.y, .int .i64 p.e] 26)
  have hxp := Box.new (w.alloc (.cells #[.int .i64 a, .int .i64 b] 29)) 26 #[.int .i64 p.x, .int .i64 p.y, .int .i64 p.e]
  rw [show (w.alloc (.cells #[.int .i64 a, .int .i64 b] 29)).heap.size = w.heap.size + 1 from by simp] at hxp
  replace h := Below.step h hA
  replace hxc := hxc.kept hA
  clear hA
  have hA := below_alloc1 ((w.alloc (.cells #[.int .i64 a, .int .i64 b] 29)).alloc (.cells #[.int .i64 p.x, .int .i64 p.y, .int .i64 p.e] 26)) (.cells #[.int .i64 q.x, .int .i64 q.y, .int .i64 q.e] 26)
  have hxq := Box.new ((w.alloc (.cells #[.int .i64 a, .int .i64 b] 29)).alloc (.cells #[.int .i64 p.x, .int .i64 p.y, .int .i64 p.e] 26)) 26 #[.int .i64 q.x, .int .i64 q.y, .int .i64 q.e]
  rw [show ((w.alloc (.cells #[.int .i64 a, .int .i64 b] 29)).alloc (.cells #[.int .i64 p.x, .int .i64 p.y, .int .i64 p.e] 26)).heap.size = w.heap.size + 2 from by simp] at hxq
  replace h := Below.step h hA
  replace hxc := hxc.kept hA
  replace hxp := hxp.kept hA
  clear hA
  have hA := below_alloc1 (((w.alloc (.cells #[.int .i64 a, .int .i64 b] 29)).alloc (.cells #[.int .i64 p.x, .int .i64 p.y, .int .i64 p.e] 26)).alloc (.cells #[.int .i64 q.x, .int .i64 q.y, .int .i64 q.e] 26)) (.cells #[.int .i64 0, .int .i64 0, .int .i64 0] 26)
  have hxr := Box.new (((w.alloc (.cells #[.int .i64 a, .int .i64 b] 29)).alloc (.cells #[.int .i64 p.x, .int .i64 p.y, .int .i64 p.e] 26)).alloc (.cells #[.int .i64 q.x, .int .i64 q.y, .int .i64 q.e] 26)) 26 #[.int .i64 0, .int .i64 0, .int .i64 0]
  rw [show (((w.alloc (.cells #[.int .i64 a, .int .i64 b] 29)).alloc (.cells #[.int .i64 p.x, .int .i64 p.y, .int .i64 p.e] 26)).alloc (.cells #[.int .i64 q.x, .int .i64 q.y, .int .i64 q.e] 26)).heap.size = w.heap.size + 3 from by simp] at hxr
  replace h := Below.step h hA
  replace hxc := hxc.kept hA
  replace hxp := hxp.kept hA
  replace hxq := hxq.kept hA
  clear hA
  obtain ⟨kc0, kc1⟩ := hxc.two
  have lc := hxc.lt
  obtain ⟨kp0, kp1, kp2⟩ := hxp.three
  have lp := hxp.lt
  obtain ⟨kq0, kq1, kq2⟩ := hxq.three
  have lq := hxq.lt
  obtain ⟨kr0, kr1, kr2⟩ := hxr.three
  have lr := hxr.lt
  go_enter Tryd.func32, Tryd.ntmps32
  go_wp2_with fail
  refine (c1.out _).mono ?_
  rintro e w1 ⟨rfl, hb⟩
  replace h := Below.step h hb
  replace hxc := hxc.kept hb
  replace hxp := hxp.kept hb
  replace hxq := hxq.kept hb
  replace hxr := hxr.kept hb
  clear hb kc0 kc1 lc kp0 kp1 kp2 lp kq0 kq1 kq2 lq kr0 kr1 kr2 lr
  obtain ⟨kc0, kc1⟩ := hxc.two
  have lc := hxc.lt
  obtain ⟨kp0, kp1, kp2⟩ := hxp.three
  have lp := hxp.lt
  obtain ⟨kq0, kq1, kq2⟩ := hxq.three
  have lq := hxq.lt
  obtain ⟨kr0, kr1, kr2⟩ := hxr.three
  have lr := hxr.lt
  go_wp2_with fail
  refine (c9.out _).mono ?_
  rintro e w2 ⟨rfl, rfl⟩
  go_wp2_with fail
  go_quiet (fail)
  have hb := below_dr w1 nq
  generalize World.drewN w1 nq = w3 at *
  replace h := Below.step h hb
  replace hxc := hxc.kept hb
  replace hxp := hxp.kept hb
  replace hxq := hxq.kept hb
  replace hxr := hxr.kept hb
  clear hb kc0 kc1 lc kp0 kp1 kp2 lp kq0 kq1 kq2 lq kr0 kr1 kr2 lr
  obtain ⟨kc0, kc1⟩ := hxc.two
  have lc := hxc.lt
  obtain ⟨kp0, kp1, kp2⟩ := hxp.three
  have lp := hxp.lt
  obtain ⟨kq0, kq1, kq2⟩ := hxq.three
  have lq := hxq.lt
  obtain ⟨kr0, kr1, kr2⟩ := hxr.three
  have lr := hxr.lt
  go_wp2_with fail
  refine (c2.out _).mono ?_
  rintro e w4 ⟨rfl, hb⟩
  replace h := Below.step h hb
  replace hxc := hxc.kept hb
  replace hxp := hxp.kept hb
  replace hxq := hxq.kept hb
  replace hxr := hxr.kept hb
  clear hb kc0 kc1 lc kp0 kp1 kp2 lp kq0 kq1 kq2 lq kr0 kr1 kr2 lr
  obtain ⟨kc0, kc1⟩ := hxc.two
  have lc := hxc.lt
  obtain ⟨kp0, kp1, kp2⟩ := hxp.three
  have lp := hxp.lt
  obtain ⟨kq0, kq1, kq2⟩ := hxq.three
  have lq := hxq.lt
  obtain ⟨kr0, kr1, kr2⟩ := hxr.three
  have lr := hxr.lt
  go_wp2_with fail
  have fr0 := hxr.free 0
  have fr1 := hxr.free 1
  have fr2 := hxr.free 2
  obtain ⟨sr0, sr1, sr2⟩ := (((hxr.set 0 (.int .i64 0)).set 1 (.int .i64 0)).set 2 (.int .i64 0)).three
  refine (c3.out _).mono ?_
  rintro e w5 ⟨rfl, rfl⟩
  go_wp2_with fail
  refine bodyPost_ret (v := .tuple #[.agg #[.int .i64 0, .int .i64 0, .int .i64 0], .bool false]) (by simp [results, Tryd.results32, go_sem, sr0, sr1, sr2]) (by rfl) ⟨by rfl, ?_⟩
  exact below_sets3 h (by omega) _ _ _


set_option maxHeartbeats 2000000 in
set_option maxRecDepth 100000 in
theorem ptAddS_noE (a b : Int) (p q : P3) (w : World) (hp : p.e ≠ 0) (hq : q.e ≠ 0) (N D : Int) (c1 : ∀ W : World, Calls Tryd.prog 41 #[.agg #[.int .i64 a, .int .i64 b], .agg #[.int .i64 p.x, .int .i64 p.y, .int .i64 p.e], .agg #[.int .i64 q.x, .int .i64 q.y, .int .i64 q.e]] W (GivesII W N D)) (d1 : 1 ≤ D) (d2 : D ≤ 8000) (n1 : -(200 * D) ≤ N) (n2 : N ≤ 200 * D) (fp : (-10000 ≤ p.x ∧ p.x ≤ 10000) ∧ (1 ≤ p.e ∧ p.e ≤ 20)) (fq : (-10000 ≤ q.x ∧ q.x ≤ 10000) ∧ (1 ≤ q.e ∧ q.e ≤ 20)) (P Q E : Int) (c2 : ∀ W : World, Calls Tryd.prog 48 #[.int .i64 (N * N * (p.e * p.e) * (q.e * q.e) - p.x * D * D * (q.e * q.e) - q.x * D * D * (p.e * p.e)), .int .i64 (D * D * (p.e * p.e) * (q.e * q.e))] W (GivesII W P Q)) (c3 : ∀ W : World, Calls Tryd.prog 49 #[.int .i64 Q] W fun e w' => e = .returned (.int .i64 E) ∧ W = w') (h1 : 20 < E) (h2 : E ≤ 4000000) (g : E * E = Q) : Calls Tryd.prog 32 #[.agg #[.int .i64 a, .int .i64 b], .agg #[.int .i64 p.x, .int .i64 p.y, .int .i64 p.e], .agg #[.int .i64 q.x, .int .i64 q.y, .int .i64 q.e]] w (GivesPB w 0 0 0 false) := by
  have e0 : (p.e == 0) = false := by simp [hp]
  have e1 : (q.e == 0) = false := by simp [hq]
  clear hp hq
  replace c1 := Lib.hid c1
  have e2 : (D == 0) = false := by simp; omega
  have c9 := fun W => l1Abs_any N W (by omega) (by omega)
  replace c9 := Lib.hid c9
  replace c2 := Lib.hid c2
  replace c3 := Lib.hid c3
  have e3 : ¬ (N.natAbs : Int) > 200 * D := by omega
  obtain ⟨⟨a1, a2⟩, ⟨a3, a4⟩, ⟨a5, a6⟩, ⟨a7, a8⟩, ⟨b1, b2⟩, ⟨b3, b4⟩, ⟨b5, b6⟩, ⟨b7, b8⟩, ⟨u1, u2⟩, ⟨u3, u4⟩, ⟨u5, u6⟩, ⟨u7, u8⟩⟩ := t_bd (n := N) fp fq ⟨d1, d2⟩ (by omega)
  have ee1 := (ptE_bd fp.2).1
  have ee2 := (ptE_bd fq.2).1
  obtain ⟨⟨x1, x2⟩, ⟨x3, x4⟩⟩ := fp
  obtain ⟨⟨y1, y2⟩, ⟨y3, y4⟩⟩ := fq
  have e5 : (E * E != Q) = false := by simp [g]
  have e6 := mul_bd1 (show 1 ≤ E by omega) h2 (show 1 ≤ E by omega) h2
  clear g
  have h := Below.refl w.heap.size w
  have hA := below_alloc1 w (.cells #[.int .i64 a, .int .i64 b] 29)
  have hxc := Box.new w 29 #[.int .i64 a, .int .i64 b]
  replace h := Below.step h hA
  clear hA
  have hA := below_alloc1 (w.alloc (.cells #[.int .i64 a, .int .i64 b] 29)) (.cells #[.int .i64 p.x, .int .i64 p.y, .int .i64 p.e] 26)
  have hxp := Box.new (w.alloc (.cells #[.int .i64 a, .int .i64 b] 29)) 26 #[.int .i64 p.x, .int .i64 p.y, .int .i64 p.e]
  rw [show (w.alloc (.cells #[.int .i64 a, .int .i64 b] 29)).heap.size = w.heap.size + 1 from by simp] at hxp
  replace h := Below.step h hA
  replace hxc := hxc.kept hA
  clear hA
  have hA := below_alloc1 ((w.alloc (.cells #[.int .i64 a, .int .i64 b] 29)).alloc (.cells #[.int .i64 p.x, .int .i64 p.y, .int .i64 p.e] 26)) (.cells #[.int .i64 q.x, .int .i64 q.y, .int .i64 q.e] 26)
  have hxq := Box.new ((w.alloc (.cells #[.int .i64 a, .int .i64 b] 29)).alloc (.cells #[.int .i64 p.x, .int .i64 p.y, .int .i64 p.e] 26)) 26 #[.int .i64 q.x, .int .i64 q.y, .int .i64 q.e]
  rw [show ((w.alloc (.cells #[.int .i64 a, .int .i64 b] 29)).alloc (.cells #[.int .i64 p.x, .int .i64 p.y, .int .i64 p.e] 26)).heap.size = w.heap.size + 2 from by simp] at hxq
  replace h := Below.step h hA
  replace hxc := hxc.kept hA
  replace hxp := hxp.kept hA
  clear hA
  have hA := below_alloc1 (((w.alloc (.cells #[.int .i64 a, .int .i64 b] 29)).alloc (.cells #[.int .i64 p.x, .int .i64 p.y, .int .i64 p.e] 26)).alloc (.cells #[.int .i64 q.x, .int .i64 q.y, .int .i64 q.e] 26)) (.cells #[.int .i64 0, .int .i64 0, .int .i64 0] 26)
  have hxr := Box.new (((w.alloc (.cells #[.int .i64 a, .int .i64 b] 29)).alloc (.cells #[.int .i64 p.x, .int .i64 p.y, .int .i64 p.e] 26)).alloc (.cells #[.int .i64 q.x, .int .i64 q.y, .int .i64 q.e] 26)) 26 #[.int .i64 0, .int .i64 0, .int .i64 0]
  rw [show (((w.alloc (.cells #[.int .i64 a, .int .i64 b] 29)).alloc (.cells #[.int .i64 p.x, .int .i64 p.y, .int .i64 p.e] 26)).alloc (.cells #[.int .i64 q.x, .int .i64 q.y, .int .i64 q.e] 26)).heap.size = w.heap.size + 3 from by simp] at hxr
  replace h := Below.step h hA
  replace hxc := hxc.kept hA
  replace hxp := hxp.kept hA
  replace hxq := hxq.kept hA
  clear hA
  obtain ⟨kc0, kc1⟩ := hxc.two
  have lc := hxc.lt
  obtain ⟨kp0, kp1, kp2⟩ := hxp.three
  have lp := hxp.lt
  obtain ⟨kq0, kq1, kq2⟩ := hxq.three
  have lq := hxq.lt
  obtain ⟨kr0, kr1, kr2⟩ := hxr.three
  have lr := hxr.lt
  go_enter Tryd.func32, Tryd.ntmps32
  go_wp2_with fail
  refine (c1.out _).mono ?_
  rintro e w1 ⟨rfl, hb⟩
  replace h := Below.step h hb
  replace hxc := hxc.kept hb
  replace hxp := hxp.kept hb
  replace hxq := hxq.kept hb
  replace hxr := hxr.kept hb
  clear hb kc0 kc1 lc kp0 kp1 kp2 lp kq0 kq1 kq2 lq kr0 kr1 kr2 lr
  obtain ⟨kc0, kc1⟩ := hxc.two
  have lc := hxc.lt
  obtain ⟨kp0, kp1, kp2⟩ := hxp.three
  have lp := hxp.lt
  obtain ⟨kq0, kq1, kq2⟩ := hxq.three
  have lq := hxq.lt
  obtain ⟨kr0, kr1, kr2⟩ := hxr.three
  have lr := hxr.lt
  go_wp2_with fail
  refine (c9.out _).mono ?_
  rintro e w2 ⟨rfl, rfl⟩
  go_wp2_with fail
  go_quiet (fail)
  have hb := below_dr w1 nq
  generalize World.drewN w1 nq = w3 at *
  replace h := Below.step h hb
  replace hxc := hxc.kept hb
  replace hxp := hxp.kept hb
  replace hxq := hxq.kept hb
  replace hxr := hxr.kept hb
  clear hb kc0 kc1 lc kp0 kp1 kp2 lp kq0 kq1 kq2 lq kr0 kr1 kr2 lr
  obtain ⟨kc0, kc1⟩ := hxc.two
  have lc := hxc.lt
  obtain ⟨kp0, kp1, kp2⟩ := hxp.three
  have lp := hxp.lt
  obtain ⟨kq0, kq1, kq2⟩ := hxq.three
  have lq := hxq.lt
  obtain ⟨kr0, kr1, kr2⟩ := hxr.three
  have lr := hxr.lt
  go_wp2_with fail
  refine (c2.out _).mono ?_
  rintro e w4 ⟨rfl, hb⟩
  replace h := Below.step h hb
  replace hxc := hxc.kept hb
  replace hxp := hxp.kept hb
  replace hxq := hxq.kept hb
  replace hxr := hxr.kept hb
  clear hb kc0 kc1 lc kp0 kp1 kp2 lp kq0 kq1 kq2 lq kr0 kr1 kr2 lr
  obtain ⟨kc0, kc1⟩ := hxc.two
  have lc := hxc.lt
  obtain ⟨kp0, kp1, kp2⟩ := hxp.three
  have lp := hxp.lt
  obtain ⟨kq0, kq1, kq2⟩ := hxq.three
  have lq := hxq.lt
  obtain ⟨kr0, kr1, kr2⟩ := hxr.three
  have lr := hxr.lt
  go_wp2_with fail
  have fr0 := hxr.free 0
  have fr1 := hxr.free 1
  have fr2 := hxr.free 2
  obtain ⟨sr0, sr1, sr2⟩ := (((hxr.set 0 (.int .i64 0)).set 1 (.int .i64 0)).set 2 (.int .i64 0)).three
  refine (c3.out _).mono ?_
  rintro e w5 ⟨rfl, rfl⟩
  go_wp2_with fail
  refine bodyPost_ret (v := .tuple #[.agg #[.int .i64 0, .int .i64 0, .int .i64 0], .bool false]) (by simp [results, Tryd.results32, go_sem, sr0, sr1, sr2]) (by rfl) ⟨by rfl, ?_⟩
  exact below_sets3 h (by omega) _ _ _


set_option maxHeartbeats 2000000 in
set_option maxRecDepth 100000 in
theorem ptAddS_noX (a b : Int) (p q : P3) (w : World) (hp : p.e ≠ 0) (hq : q.e ≠ 0) (N D : Int) (c1 : ∀ W : World, Calls Tryd.prog 41 #[.agg #[.int .i64 a, .int .i64 b], .agg #[.int .i64 p.x, .int .i64 p.y, .int .i64 p.e], .agg #[.int .i64 q.x, .int .i64 q.y, .int .i64 q.e]] W (GivesII W N D)) (d1 : 1 ≤ D) (d2 : D ≤ 8000) (n1 : -(200 * D) ≤ N) (n2 : N ≤ 200 * D) (fp : (-10000 ≤ p.x ∧ p.x ≤ 10000) ∧ (1 ≤ p.e ∧ p.e ≤ 20)) (fq : (-10000 ≤ q.x ∧ q.x ≤ 10000) ∧ (1 ≤ q.e ∧ q.e ≤ 20)) (P Q E : Int) (c2 : ∀ W : World, Calls Tryd.prog 48 #[.int .i64 (N * N * (p.e * p.e) * (q.e * q.e) - p.x * D * D * (q.e * q.e) - q.x * D * D * (p.e * p.e)), .int .i64 (D * D * (p.e * p.e) * (q.e * q.e))] W (GivesII W P Q)) (c3 : ∀ W : World, Calls Tryd.prog 49 #[.int .i64 Q] W fun e w' => e = .returned (.int .i64 E) ∧ W = w') (h1 : 1 ≤ E) (h2 : E ≤ 20) (g : E * E = Q) (gx : P < -10000 ∨ 10000 < P) : Calls Tryd.prog 32 #[.agg #[.int .i64 a, .int .i64 b], .agg #[.int .i64 p.x, .int .i64 p.y, .int .i64 p.e], .agg #[.int .i64 q.x, .int .i64 q.y, .int .i64 q.e]] w (GivesPB w 0 0 0 false) := by
  have e0 : (p.e == 0) = false := by simp [hp]
  have e1 : (q.e == 0) = false := by simp [hq]
  clear hp hq
  replace c1 := Lib.hid c1
  have e2 : (D == 0) = false := by simp; omega
  have c9 := fun W => l1Abs_any N W (by omega) (by omega)
  replace c9 := Lib.hid c9
  replace c2 := Lib.hid c2
  replace c3 := Lib.hid c3
  have e3 : ¬ (N.natAbs : Int) > 200 * D := by omega
  obtain ⟨⟨a1, a2⟩, ⟨a3, a4⟩, ⟨a5, a6⟩, ⟨a7, a8⟩, ⟨b1, b2⟩, ⟨b3, b4⟩, ⟨b5, b6⟩, ⟨b7, b8⟩, ⟨u1, u2⟩, ⟨u3, u4⟩, ⟨u5, u6⟩, ⟨u7, u8⟩⟩ := t_bd (n := N) fp fq ⟨d1, d2⟩ (by omega)
  have ee1 := (ptE_bd fp.2).1
  have ee2 := (ptE_bd fq.2).1
  obtain ⟨⟨x1, x2⟩, ⟨x3, x4⟩⟩ := fp
  obtain ⟨⟨y1, y2⟩, ⟨y3, y4⟩⟩ := fq
  have e5 : (E * E != Q) = false := by simp [g]
  have e6 := mul_bd1 h1 h2 h1 h2
  replace gx := Lib.hid gx
  clear g
  have h := Below.refl w.heap.size w
  have hA := below_alloc1 w (.cells #[.int .i64 a, .int .i64 b] 29)
  have hxc := Box.new w 29 #[.int .i64 a, .int .i64 b]
  replace h := Below.step h hA
  clear hA
  have hA := below_alloc1 (w.alloc (.cells #[.int .i64 a, .int .i64 b] 29)) (.cells #[.int .i64 p.x, .int .i64 p.y, .int .i64 p.e] 26)
  have hxp := Box.new (w.alloc (.cells #[.int .i64 a, .int .i64 b] 29)) 26 #[.int .i64 p.x, .int .i64 p.y, .int .i64 p.e]
  rw [show (w.alloc (.cells #[.int .i64 a, .int .i64 b] 29)).heap.size = w.heap.size + 1 from by simp] at hxp
  replace h := Below.step h hA
  replace hxc := hxc.kept hA
  clear hA
  have hA := below_alloc1 ((w.alloc (.cells #[.int .i64 a, .int .i64 b] 29)).alloc (.cells #[.int .i64 p.x, .int .i64 p.y, .int .i64 p.e] 26)) (.cells #[.int .i64 q.x, .int .i64 q.y, .int .i64 q.e] 26)
  have hxq := Box.new ((w.alloc (.cells #[.int .i64 a, .int .i64 b] 29)).alloc (.cells #[.int .i64 p.x, .int .i64 p.y, .int .i64 p.e] 26)) 26 #[.int .i64 q.x, .int .i64 q.y, .int .i64 q.e]
  rw [show ((w.alloc (.cells #[.int .i64 a, .int .i64 b] 29)).alloc (.cells #[.int .i64 p.x, .int .i64 p.y, .int .i64 p.e] 26)).heap.size = w.heap.size + 2 from by simp] at hxq
  replace h := Below.step h hA
  replace hxc := hxc.kept hA
  replace hxp := hxp.kept hA
  clear hA
  have hA := below_alloc1 (((w.alloc (.cells #[.int .i64 a, .int .i64 b] 29)).alloc (.cells #[.int .i64 p.x, .int .i64 p.y, .int .i64 p.e] 26)).alloc (.cells #[.int .i64 q.x, .int .i64 q.y, .int .i64 q.e] 26)) (.cells #[.int .i64 0, .int .i64 0, .int .i64 0] 26)
  have hxr := Box.new (((w.alloc (.cells #[.int .i64 a, .int .i64 b] 29)).alloc (.cells #[.int .i64 p.x, .int .i64 p.y, .int .i64 p.e] 26)).alloc (.cells #[.int .i64 q.x, .int .i64 q.y, .int .i64 q.e] 26)) 26 #[.int .i64 0, .int .i64 0, .int .i64 0]
  rw [show (((w.alloc (.cells #[.int .i64 a, .int .i64 b] 29)).alloc (.cells #[.int .i64 p.x, .int .i64 p.y, .int .i64 p.e] 26)).alloc (.cells #[.int .i64 q.x, .int .i64 q.y, .int .i64 q.e] 26)).heap.size = w.heap.size + 3 from by simp] at hxr
  replace h := Below.step h hA
  replace hxc := hxc.kept hA
  replace hxp := hxp.kept hA
  replace hxq := hxq.kept hA
  clear hA
  obtain ⟨kc0, kc1⟩ := hxc.two
  have lc := hxc.lt
  obtain ⟨kp0, kp1, kp2⟩ := hxp.three
  have lp := hxp.lt
  obtain ⟨kq0, kq1, kq2⟩ := hxq.three
  have lq := hxq.lt
  obtain ⟨kr0, kr1, kr2⟩ := hxr.three
  have lr := hxr.lt
  go_enter Tryd.func32, Tryd.ntmps32
  go_wp2_with fail
  refine (c1.out _).mono ?_
  rintro e w1 ⟨rfl, hb⟩
  replace h := Below.step h hb
  replace hxc := hxc.kept hb
  replace hxp := hxp.kept hb
  replace hxq := hxq.kept hb
  replace hxr := hxr.kept hb
  clear hb kc0 kc1 lc kp0 kp1 kp2 lp kq0 kq1 kq2 lq kr0 kr1 kr2 lr
  obtain ⟨kc0, kc1⟩ := hxc.two
  have lc := hxc.lt
  obtain ⟨kp0, kp1, kp2⟩ := hxp.three
  have lp := hxp.lt
  obtain ⟨kq0, kq1, kq2⟩ := hxq.three
  have lq := hxq.lt
  obtain ⟨kr0, kr1, kr2⟩ := hxr.three
  have lr := hxr.lt
  go_wp2_with fail
  refine (c9.out _).mono ?_
  rintro e w2 ⟨rfl, rfl⟩
  go_wp2_with fail
  go_quiet (fail)
  have hb := below_dr w1 nq
  generalize World.drewN w1 nq = w3 at *
  replace h := Below.step h hb
  replace hxc := hxc.kept hb
  replace hxp := hxp.kept hb
  replace hxq := hxq.kept hb
  replace hxr := hxr.kept hb
  clear hb kc0 kc1 lc kp0 kp1 kp2 lp kq0 kq1 kq2 lq kr0 kr1 kr2 lr
  obtain ⟨kc0, kc1⟩ := hxc.two
  have lc := hxc.lt
  obtain ⟨kp0, kp1, kp2⟩ := hxp.three
  have lp := hxp.lt
  obtain ⟨kq0, kq1, kq2⟩ := hxq.three
  have lq := hxq.lt
  obtain ⟨kr0, kr1, kr2⟩ := hxr.three
  have lr := hxr.lt
  go_wp2_with fail
  refine (c2.out _).mono ?_
  rintro e w4 ⟨rfl, hb⟩
  replace h := Below.step h hb
  replace hxc := hxc.kept hb
  replace hxp := hxp.kept hb
  replace hxq := hxq.kept hb
  replace hxr := hxr.kept hb
  clear hb kc0 kc1 lc kp0 kp1 kp2 lp kq0 kq1 kq2 lq kr0 kr1 kr2 lr
  obtain ⟨kc0, kc1⟩ := hxc.two
  have lc := hxc.lt
  obtain ⟨kp0, kp1, kp2⟩ := hxp.three
  have lp := hxp.lt
  obtain ⟨kq0, kq1, kq2⟩ := hxq.three
  have lq := hxq.lt
  obtain ⟨kr0, kr1, kr2⟩ := hxr.three
  have lr := hxr.lt
  go_wp2_with fail
  have fr0 := hxr.free 0
  have fr1 := hxr.free 1
  have fr2 := hxr.free 2
  obtain ⟨sr0, sr1, sr2⟩ := (((hxr.set 0 (.int .i64 0)).set 1 (.int .i64 0)).set 2 (.int .i64 0)).three
  refine (c3.out _).mono ?_
  rintro e w5 ⟨rfl, rfl⟩
  go_wp2_with fail
  refine (l1In_no P _ _ _ gx.out).mono ?_
  rintro e w6 ⟨rfl, rfl⟩
  go_wp2_with fail
  refine bodyPost_ret (v := .tuple #[.agg #[.int .i64 0, .int .i64 0, .int .i64 0], .bool false]) (by simp [results, Tryd.results32, go_sem, sr0, sr1, sr2]) (by rfl) ⟨by rfl, ?_⟩
  exact below_sets3 h (by omega) _ _ _


set_option maxHeartbeats 4000000 in
set_option maxRecDepth 100000 in
theorem ptAddS_yes (a b : Int) (p q : P3) (w : World) (hp : p.e ≠ 0) (hq : q.e ≠ 0) (N D : Int) (c1 : ∀ W : World, Calls Tryd.prog 41 #[.agg #[.int .i64 a, .int .i64 b], .agg #[.int .i64 p.x, .int .i64 p.y, .int .i64 p.e], .agg #[.int .i64 q.x, .int .i64 q.y, .int .i64 q.e]] W (GivesII W N D)) (d1 : 1 ≤ D) (d2 : D ≤ 8000) (n1 : -(200 * D) ≤ N) (n2 : N ≤ 200 * D) (fp : (-10000 ≤ p.x ∧ p.x ≤ 10000) ∧ (1 ≤ p.e ∧ p.e ≤ 20)) (fq : (-10000 ≤ q.x ∧ q.x ≤ 10000) ∧ (1 ≤ q.e ∧ q.e ≤ 20)) (P Q E : Int) (c2 : ∀ W : World, Calls Tryd.prog 48 #[.int .i64 (N * N * (p.e * p.e) * (q.e * q.e) - p.x * D * D * (q.e * q.e) - q.x * D * D * (p.e * p.e)), .int .i64 (D * D * (p.e * p.e) * (q.e * q.e))] W (GivesII W P Q)) (c3 : ∀ W : World, Calls Tryd.prog 49 #[.int .i64 Q] W fun e w' => e = .returned (.int .i64 E) ∧ W = w') (h1 : 1 ≤ E) (h2 : E ≤ 20) (g : E * E = Q) (gx : -10000 ≤ P ∧ P ≤ 10000) (py : -1800000 ≤ p.y ∧ p.y ≤ 1800000) (up un y bo Y : Int) (c4 : ∀ W : World, Calls Tryd.prog 48 #[.int .i64 (N * (p.x * E * E - P * (p.e * p.e))), .int .i64 (D * (p.e * p.e) * E * E)] W (GivesII W up un)) (up1 : -12800000000000 ≤ up) (up2 : up ≤ 12800000000000) (un1 : 1 ≤ un) (un2 : un ≤ 1280000000) (c5 : ∀ W : World, Calls Tryd.prog 48 #[.int .i64 (up * (p.e * p.e) * p.e - p.y * un), .int .i64 (un * (p.e * p.e) * p.e)] W (GivesII W y bo)) (bo1 : 1 ≤ bo) (hY : y * (E * E * E / bo) = Y) (Y1 : -1800000 ≤ Y) (Y2 : Y ≤ 1800000) : Calls Tryd.prog 32 #[.agg #[.int .i64 a, .int .i64 b], .agg #[.int .i64 p.x, .int .i64 p.y, .int .i64 p.e], .agg #[.int .i64 q.x, .int .i64 q.y, .int .i64 q.e]] w (GivesPB w P Y E true) := by
  have e0 : (p.e == 0) = false := by simp [hp]
  have e1 : (q.e == 0) = false := by simp [hq]
  clear hp hq
  replace c1 := Lib.hid c1
  have e2 : (D == 0) = false := by simp; omega
  have c9 := fun W => l1Abs_any N W (by omega) (by omega)
  replace c9 := Lib.hid c9
  replace c2 := Lib.hid c2
  replace c3 := Lib.hid c3
  have e3 : ¬ (N.natAbs : Int) > 200 * D := by omega
  obtain ⟨⟨a1, a2⟩, ⟨a3, a4⟩, ⟨a5, a6⟩, ⟨a7, a8⟩, ⟨b1, b2⟩, ⟨b3, b4⟩, ⟨b5, b6⟩, ⟨b7, b8⟩, ⟨u1, u2⟩, ⟨u3, u4⟩, ⟨u5, u6⟩, ⟨u7, u8⟩⟩ := t_bd (n := N) fp fq ⟨d1, d2⟩ (by omega)
  have ee1 := (ptE_bd fp.2).1
  have ee2 := (ptE_bd fq.2).1
  obtain ⟨⟨x1, x2⟩, ⟨x3, x4⟩⟩ := fp
  obtain ⟨⟨y1, y2⟩, ⟨y3, y4⟩⟩ := fq
  have e5 : (E * E != Q) = false := by simp [g]
  clear g
  replace c4 := Lib.hid c4
  replace c5 := Lib.hid c5
  replace hY := Lib.hid hY
  have e6 := mul_bd1 h1 h2 h1 h2
  have e7 := mul_bd1 (a := E * E) (b := E) (M := 400) (N := 20) e6.1 e6.2 h1 h2
  have v1 := fr_mul_bd x1 x2 (show -20 ≤ E by omega) h2
  have v2 := fr_mul_bd (a := p.x * E) (b := E) (M := 200000) (N := 20) (by omega) (by omega) (by omega) h2
  have v3 := fr_mul_bd (a := P) (b := p.e * p.e) (M := 10000) (N := 400) gx.1 gx.2 (by omega) (by omega)
  have v4 := fr_mul_bd (a := N) (b := p.x * E * E - P * (p.e * p.e)) (M := 1600000) (N := 8000000) (by omega) (by omega) (by omega) (by omega)
  have v5 := mul_bd1 (a := D) (b := p.e * p.e) (M := 8000) (N := 400) d1 d2 ee1.1 ee1.2
  have v6 := mul_bd1 (a := D * (p.e * p.e)) (b := E) (M := 3200000) (N := 20) v5.1 v5.2 h1 h2
  have v7 := mul_bd1 (a := D * (p.e * p.e) * E) (b := E) (M := 64000000) (N := 20) v6.1 v6.2 h1 h2
  have v8 := fr_mul_bd (a := up) (b := p.e * p.e) (M := 12800000000000) (N := 400) up1 up2 (by omega) (by omega)
  have v9 := fr_mul_bd (a := up * (p.e * p.e)) (b := p.e) (M := 5120000000000000) (N := 20) (by omega) (by omega) (by omega) x4
  have t1 := fr_mul_bd (a := p.y) (b := un) (M := 1800000) (N := 1280000000) py.1 py.2 (by omega) un2
  have t2 := mul_bd1 (a := un) (b := p.e * p.e) (M := 1280000000) (N := 400) un1 un2 ee1.1 ee1.2
  have t3 := mul_bd1 (a := un * (p.e * p.e)) (b := p.e) (M := 512000000000) (N := 20) t2.1 t2.2 x3 x4
  have t4 : (bo == 0) = false := by simp; omega
  obtain ⟨gx1, gx2⟩ := gx
  have h := Below.refl w.heap.size w
  have hA := below_alloc1 w (.cells #[.int .i64 a, .int .i64 b] 29)
  have hxc := Box.new w 29 #[.int .i64 a, .int .i64 b]
  replace h := Below.step h hA
  clear hA
  have hA := below_alloc1 (w.alloc (.cells #[.int .i64 a, .int .i64 b] 29)) (.cells #[.int .i64 p.x, .int .i64 p.y, .int .i64 p.e] 26)
  have hxp := Box.new (w.alloc (.cells #[.int .i64 a, .int .i64 b] 29)) 26 #[.int .i64 p.x, .int .i64 p.y, .int .i64 p.e]
  rw [show (w.alloc (.cells #[.int .i64 a, .int .i64 b] 29)).heap.size = w.heap.size + 1 from by simp] at hxp
  replace h := Below.step h hA
  replace hxc := hxc.kept hA
  clear hA
  have hA := below_alloc1 ((w.alloc (.cells #[.int .i64 a, .int .i64 b] 29)).alloc (.cells #[.int .i64 p.x, .int .i64 p.y, .int .i64 p.e] 26)) (.cells #[.int .i64 q.x, .int .i64 q.y, .int .i64 q.e] 26)
  have hxq := Box.new ((w.alloc (.cells #[.int .i64 a, .int .i64 b] 29)).alloc (.cells #[.int .i64 p.x, .int .i64 p.y, .int .i64 p.e] 26)) 26 #[.int .i64 q.x, .int .i64 q.y, .int .i64 q.e]
  rw [show ((w.alloc (.cells #[.int .i64 a, .int .i64 b] 29)).alloc (.cells #[.int .i64 p.x, .int .i64 p.y, .int .i64 p.e] 26)).heap.size = w.heap.size + 2 from by simp] at hxq
  replace h := Below.step h hA
  replace hxc := hxc.kept hA
  replace hxp := hxp.kept hA
  clear hA
  have hA := below_alloc1 (((w.alloc (.cells #[.int .i64 a, .int .i64 b] 29)).alloc (.cells #[.int .i64 p.x, .int .i64 p.y, .int .i64 p.e] 26)).alloc (.cells #[.int .i64 q.x, .int .i64 q.y, .int .i64 q.e] 26)) (.cells #[.int .i64 0, .int .i64 0, .int .i64 0] 26)
  have hxr := Box.new (((w.alloc (.cells #[.int .i64 a, .int .i64 b] 29)).alloc (.cells #[.int .i64 p.x, .int .i64 p.y, .int .i64 p.e] 26)).alloc (.cells #[.int .i64 q.x, .int .i64 q.y, .int .i64 q.e] 26)) 26 #[.int .i64 0, .int .i64 0, .int .i64 0]
  rw [show (((w.alloc (.cells #[.int .i64 a, .int .i64 b] 29)).alloc (.cells #[.int .i64 p.x, .int .i64 p.y, .int .i64 p.e] 26)).alloc (.cells #[.int .i64 q.x, .int .i64 q.y, .int .i64 q.e] 26)).heap.size = w.heap.size + 3 from by simp] at hxr
  replace h := Below.step h hA
  replace hxc := hxc.kept hA
  replace hxp := hxp.kept hA
  replace hxq := hxq.kept hA
  clear hA
  obtain ⟨kc0, kc1⟩ := hxc.two
  have lc := hxc.lt
  obtain ⟨kp0, kp1, kp2⟩ := hxp.three
  have lp := hxp.lt
  obtain ⟨kq0, kq1, kq2⟩ := hxq.three
  have lq := hxq.lt
  obtain ⟨kr0, kr1, kr2⟩ := hxr.three
  have lr := hxr.lt
  go_enter Tryd.func32, Tryd.ntmps32
  go_wp2_with fail
  refine (c1.out _).mono ?_
  rintro e w1 ⟨rfl, hb⟩
  replace h := Below.step h hb
  replace hxc := hxc.kept hb
  replace hxp := hxp.kept hb
  replace hxq := hxq.kept hb
  replace hxr := hxr.kept hb
  clear hb kc0 kc1 lc kp0 kp1 kp2 lp kq0 kq1 kq2 lq kr0 kr1 kr2 lr
  obtain ⟨kc0, kc1⟩ := hxc.two
  have lc := hxc.lt
  obtain ⟨kp0, kp1, kp2⟩ := hxp.three
  have lp := hxp.lt
  obtain ⟨kq0, kq1, kq2⟩ := hxq.three
  have lq := hxq.lt
  obtain ⟨kr0, kr1, kr2⟩ := hxr.three
  have lr := hxr.lt
  go_wp2_with fail
  refine (c9.out _).mono ?_
  rintro e w2 ⟨rfl, rfl⟩
  go_wp2_with fail
  go_quiet (fail)
  have hb := below_dr w1 nq
  generalize World.drewN w1 nq = w3 at *
  replace h := Below.step h hb
  replace hxc := hxc.kept hb
  replace hxp := hxp.kept hb
  replace hxq := hxq.kept hb
  replace hxr := hxr.kept hb
  clear hb kc0 kc1 lc kp0 kp1 kp2 lp kq0 kq1 kq2 lq kr0 kr1 kr2 lr
  obtain ⟨kc0, kc1⟩ := hxc.two
  have lc := hxc.lt
  obtain ⟨kp0, kp1, kp2⟩ := hxp.three
  have lp := hxp.lt
  obtain ⟨kq0, kq1, kq2⟩ := hxq.three
  have lq := hxq.lt
  obtain ⟨kr0, kr1, kr2⟩ := hxr.three
  have lr := hxr.lt
  go_wp2_with fail
  refine (c2.out _).mono ?_
  rintro e w4 ⟨rfl, hb⟩
  replace h := Below.step h hb
  replace hxc := hxc.kept hb
  replace hxp := hxp.kept hb
  replace hxq := hxq.kept hb
  replace hxr := hxr.kept hb
  clear hb kc0 kc1 lc kp0 kp1 kp2 lp kq0 kq1 kq2 lq kr0 kr1 kr2 lr
  obtain ⟨kc0, kc1⟩ := hxc.two
  have lc := hxc.lt
  obtain ⟨kp0, kp1, kp2⟩ := hxp.three
  have lp := hxp.lt
  obtain ⟨kq0, kq1, kq2⟩ := hxq.three
  have lq := hxq.lt
  obtain ⟨kr0, kr1, kr2⟩ := hxr.three
  have lr := hxr.lt
  go_wp2_with fail
  refine (c3.out _).mono ?_
  rintro e w5 ⟨rfl, rfl⟩
  go_wp2_with fail
  refine (l1In_yes P _ _ _ gx1 gx2).mono ?_
  rintro e w6 ⟨rfl, rfl⟩
  go_wp2_with fail
  refine (c4.out _).mono ?_
  rintro e w7 ⟨rfl, hb⟩
  replace h := Below.step h hb
  replace hxc := hxc.kept hb
  replace hxp := hxp.kept hb
  replace hxq := hxq.kept hb
  replace hxr := hxr.kept hb
  clear hb kc0 kc1 lc kp0 kp1 kp2 lp kq0 kq1 kq2 lq kr0 kr1 kr2 lr
  obtain ⟨kc0, kc1⟩ := hxc.two
  have lc := hxc.lt
  obtain ⟨kp0, kp1, kp2⟩ := hxp.three
  have lp := hxp.lt
  obtain ⟨kq0, kq1, kq2⟩ := hxq.three
  have lq := hxq.lt
  obtain ⟨kr0, kr1, kr2⟩ := hxr.three
  have lr := hxr.lt
  go_wp2_with fail
  refine (c5.out _).mono ?_
  rintro e w8 ⟨rfl, hb⟩
  replace h := Below.step h hb
  replace hxc := hxc.kept hb
  replace hxp := hxp.kept hb
  replace hxq := hxq.kept hb
  replace hxr := hxr.kept hb
  clear hb kc0 kc1 lc kp0 kp1 kp2 lp kq0 kq1 kq2 lq kr0 kr1 kr2 lr
  obtain ⟨kc0, kc1⟩ := hxc.two
  have lc := hxc.lt
  obtain ⟨kp0, kp1, kp2⟩ := hxp.three
  have lp := hxp.lt
  obtain ⟨kq0, kq1, kq2⟩ := hxq.three
  have lq := hxq.lt
  obtain ⟨kr0, kr1, kr2⟩ := hxr.three
  have lr := hxr.lt
  have fr0 := hxr.free 0
  have fr1 := hxr.free 1
  have fr2 := hxr.free 2
  obtain ⟨sr0, sr1, sr2⟩ := (((hxr.set 0 (.int .i64 P)).set 1 (.int .i64 Y)).set 2 (.int .i64 E)).three
  go_wp2_with fail
  rw [show wrap64 (y * (E * E * E / bo)) = Y from by rw [hY.out]; exact IntWalk.wrap64_in _ (by omega)]
  refine bodyPost_ret (v := .tuple #[.agg #[.int .i64 P, .int .i64 Y, .int .i64 E], .bool true]) (by simp [results, Tryd.results32, go_sem, sr0, sr1, sr2]) (by rfl) ⟨by rfl, ?_⟩
  exact below_sets3 h (by omega) _ _ _


theorem ptAddS_any {a b : Int} (p q : P3) (w : World) (hc : (-1000 ≤ a ∧ a ≤ 1000) ∧ (-10000 ≤ b ∧ b ≤ 10000)) (gp : PtOn a b p) (gq : PtOn a b q) : Calls Tryd.prog 32 #[.agg #[.int .i64 a, .int .i64 b], .agg #[.int .i64 p.x, .int .i64 p.y, .int .i64 p.e], .agg #[.int .i64 q.x, .int .i64 q.y, .int .i64 q.e]] w (GivesO w (addP a p q)) := by
  unfold addP
  by_cases hp : p.e = 0
  · rw [if_pos hp, gp.inf hp]; exact ptAddS_p0 a b q w
  rw [if_neg hp]
  by_cases hq : q.e = 0
  · rw [if_pos hq, gq.inf hq]; exact ptAddS_q0 a b p w hp
  rw [if_neg hq]
  have kp := gp.fin hp
  have kq := gq.fin hq
  by_cases hF : slF p q = 0
  · rw [if_pos hF]; exact ptAddS_v a b p q w hp hq (fun W => ptSlope_zero a b p q W hc.1 gp.bd gq.bd hF)
  rw [if_neg hF]
  have c1 : ∀ W : World, Calls Tryd.prog 41 #[.agg #[.int .i64 a, .int .i64 b], .agg #[.int .i64 p.x, .int .i64 p.y, .int .i64 p.e], .agg #[.int .i64 q.x, .int .i64 q.y, .int .i64 q.e]] W (GivesII W (slN a p q) (slD a p q)) := fun W => ptSlope_any a b p q W hc.1 gp.bd gq.bd hF
  have hd := slD_pos (a := a) hF
  have hs := sl_cross (a := a) (p := p) (q := q)
  have hUb : -30000000000 ≤ slN a p q ∧ slN a p q ≤ 30000000000 := by
    have := lowP_le (n := slU a p q) (d := slF p q)
    have := slU_bd hc.1 gp.bd gq.bd
    unfold slN; omega
  generalize slN a p q = N at *
  generalize slD a p q = D at *
  have fp := And.intro kp.x kp.e
  have fq := And.intro kq.x kq.e
  by_cases g1 : D ≤ 8000
  case neg => rw [if_neg fun g => g1 g.gd]; exact ptAddS_noD a b p q w hp hq N D c1 (by omega)
  by_cases g2 : -(200 * D) ≤ N ∧ N ≤ 200 * D
  case neg => rw [if_neg fun g => g2 g.gn]; exact ptAddS_noN a b p q w hp hq N D c1 (by omega) g1 (by omega) (by omega)
  have tb := t_bd (n := N) fp fq ⟨by omega, g1⟩ ⟨by omega, by omega⟩
  have hD := tD_pos hd kp.e.1 kq.e.1
  have hq1 := lowQ_pos (n := tN N D p q) (d := tD D p q) (by omega)
  have hq2 := lowQ_le (n := tN N D p q) (d := tD D p q)
  have htd : tD D p q ≤ 10240000000000 := tb.2.2.2.2.2.2.2.2.2.2.2.2
  have hQb : 1 ≤ lowQ (tN N D p q) (tD D p q) ∧ lowQ (tN N D p q) (tD D p q) ≤ 10240000000000 := by omega
  have htn : -4000000000000000000 ≤ tN N D p q ∧ tN N D p q ≤ 4000000000000000000 := by unfold tN; omega
  have c2 : ∀ W : World, Calls Tryd.prog 48 #[.int .i64 (tN N D p q), .int .i64 (tD D p q)] W (GivesII W (lowP (tN N D p q) (tD D p q)) (lowQ (tN N D p q) (tD D p q))) := fun W => lowS_any _ _ W htn (by omega) (by omega)
  have c3 : ∀ W : World, Calls Tryd.prog 49 #[.int .i64 (lowQ (tN N D p q) (tD D p q))] W fun e w' => e = .returned (.int .i64 (iroot (lowQ (tN N D p q) (tD D p q)))) ∧ W = w' := fun W => frRoot_int _ W (by omega) (by omega)
  have hE := iroot_bd (n := lowQ (tN N D p q) (tD D p q)) (by omega)
  have hE2 : iroot (lowQ (tN N D p q) (tD D p q)) ≤ 4000000 := by
    have h1 := (rootOf_spec (lowQ (tN N D p q) (tD D p q)).toNat).lt (m := 4000000) (by omega)
    unfold iroot; omega
  by_cases g3 : iroot (lowQ (tN N D p q) (tD D p q)) * iroot (lowQ (tN N D p q) (tD D p q)) = lowQ (tN N D p q) (tD D p q)
  case neg => rw [if_neg fun g => g3 g.gr]; exact ptAddS_noR a b p q w hp hq N D c1 (by omega) g1 g2.1 g2.2 fp fq _ _ _ c2 c3 hE hE2 g3
  by_cases g4 : iroot (lowQ (tN N D p q) (tD D p q)) ≤ 20
  case neg => rw [if_neg fun g => g4 g.ge]; exact ptAddS_noE a b p q w hp hq N D c1 (by omega) g1 g2.1 g2.2 fp fq _ _ _ c2 c3 (by omega) hE2 g3
  by_cases g5 : -10000 ≤ lowP (tN N D p q) (tD D p q) ∧ lowP (tN N D p q) (tD D p q) ≤ 10000
  case neg => rw [if_neg fun g => g5 g.gx]; exact ptAddS_noX a b p q w hp hq N D c1 (by omega) g1 g2.1 g2.2 fp fq _ _ _ c2 c3 hE g4 g3 (by omega)
  have g : Good N D p q := ⟨g1, g2, g3, g4, g5⟩
  rw [if_pos g]
  have ht := third_on hc kp kq hF hs hd g
  obtain ⟨hY1, hY2⟩ := ht
  show Calls _ _ _ _ (GivesPB w (third N D p q).x (third N D p q).y (third N D p q).e true)
  rw [show lowP (tN N D p q) (tD D p q) = (third N D p q).x from rfl] at c2 g5
  rw [show iroot (lowQ (tN N D p q) (tD D p q)) = (third N D p q).e from rfl] at c3 g3 g4 hE
  have hYb := hY1.y
  clear g hY1
  generalize (third N D p q).x = P at *
  generalize (third N D p q).y = Y at *
  generalize (third N D p q).e = E at *
  have ebp := (ptE_bd kp.e).1
  have ebE := (ptE_bd ⟨hE, g4⟩).1
  have m1 := fr_mul_bd kp.x.1 kp.x.2 (show -20 ≤ E by omega) g4
  have m2 := fr_mul_bd (a := p.x * E) (b := E) (M := 200000) (N := 20) (by omega) (by omega) (by omega) g4
  have m3 := fr_mul_bd (a := P) (b := p.e * p.e) (M := 10000) (N := 400) g5.1 g5.2 (by omega) (by omega)
  have m4 := fr_mul_bd (a := N) (b := p.x * E * E - P * (p.e * p.e)) (M := 1600000) (N := 8000000) (by omega) (by omega) (by omega) (by omega)
  have m5 := mul_bd1 (a := D) (b := p.e * p.e) (M := 8000) (N := 400) (by omega) g1 ebp.1 ebp.2
  have m6 := mul_bd1 (a := D * (p.e * p.e)) (b := E) (M := 3200000) (N := 20) m5.1 m5.2 hE g4
  have m7 := mul_bd1 (a := D * (p.e * p.e) * E) (b := E) (M := 64000000) (N := 20) m6.1 m6.2 hE g4
  obtain ⟨up, hup⟩ : ∃ up, up = lowP (N * (p.x * E * E - P * (p.e * p.e))) (D * (p.e * p.e) * E * E) := ⟨_, rfl⟩
  obtain ⟨un, hun⟩ : ∃ un, un = lowQ (N * (p.x * E * E - P * (p.e * p.e))) (D * (p.e * p.e) * E * E) := ⟨_, rfl⟩
  have c4 : ∀ W : World, Calls Tryd.prog 48 #[.int .i64 (N * (p.x * E * E - P * (p.e * p.e))), .int .i64 (D * (p.e * p.e) * E * E)] W (GivesII W up un) := fun W => by rw [hup, hun]; exact lowS_any _ _ W (by omega) (by omega) (by omega)
  have up1 : up.natAbs ≤ 12800000000000 := by have := lowP_le (n := N * (p.x * E * E - P * (p.e * p.e))) (d := D * (p.e * p.e) * E * E); rw [← hup] at this; omega
  have un1 : un.natAbs ≤ 1280000000 := by have := lowQ_le (n := N * (p.x * E * E - P * (p.e * p.e))) (d := D * (p.e * p.e) * E * E); rw [← hun] at this; omega
  have un0 : 0 < un := by rw [hun]; exact lowQ_pos (by omega)
  have n1 := fr_mul_bd (a := up) (b := p.e * p.e) (M := 12800000000000) (N := 400) (by omega) (by omega) (by omega) (by omega)
  have n2 := fr_mul_bd (a := up * (p.e * p.e)) (b := p.e) (M := 5120000000000000) (N := 20) (by omega) (by omega) (by have := kp.e; omega) kp.e.2
  have n3 := fr_mul_bd (a := p.y) (b := un) (M := 1800000) (N := 1280000000) kp.y.1 kp.y.2 (by omega) (by omega)
  have n4 := mul_bd1 (a := un) (b := p.e * p.e) (M := 1280000000) (N := 400) un0 (by omega) ebp.1 ebp.2
  have n5 := mul_bd1 (a := un * (p.e * p.e)) (b := p.e) (M := 512000000000) (N := 20) n4.1 n4.2 kp.e.1 kp.e.2
  obtain ⟨y, hy⟩ : ∃ y, y = lowP (up * (p.e * p.e) * p.e - p.y * un) (un * (p.e * p.e) * p.e) := ⟨_, rfl⟩
  obtain ⟨bo, hbo⟩ : ∃ bo, bo = lowQ (up * (p.e * p.e) * p.e - p.y * un) (un * (p.e * p.e) * p.e) := ⟨_, rfl⟩
  have c5 : ∀ W : World, Calls Tryd.prog 48 #[.int .i64 (up * (p.e * p.e) * p.e - p.y * un), .int .i64 (un * (p.e * p.e) * p.e)] W (GivesII W y bo) := fun W => by rw [hy, hbo]; exact lowS_any _ _ W (by omega) (by omega) (by omega)
  have sy := spec_y (n := N) (d := D) (x := P) (e := E) (xp := p.x) (yp := p.y) (ep := p.e) (y := y) (Y := Y) (by omega) (by omega) (by omega) hY2 up un bo hup hun hy hbo
  have e3 : E * E * E / bo = (E * E * E).tdiv bo := (Int.tdiv_eq_ediv_of_nonneg (by have := (ptE_bd ⟨hE, g4⟩).2.2.2; omega)).symm
  exact ptAddS_yes a b p q w hp hq N D c1 (by omega) g1 g2.1 g2.2 fp fq P _ E c2 c3 hE g4 g3 g5 kp.y up un y bo Y c4 (by omega) (by omega) un0 (by omega) c5 sy.2.1 (by rw [e3]; exact sy.1) hYb.1 hYb.2
end Go.Proofs.YtabcnkobojkdhaaDoor
