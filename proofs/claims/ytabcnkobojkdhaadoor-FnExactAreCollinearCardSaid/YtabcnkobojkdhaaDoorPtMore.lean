/- DoublePoint, AreCollinear of the model and of the program (written by wip/gen/ptmore.py). -/
import Derived.Test.YtabcnkobojkdhaaDoorPtAdd
import Derived.Deep.RegionHeld3
import Derived.Deep.DeepCutAuto
import Derived.BigQuiet
namespace Go.Proofs.YtabcnkobojkdhaaDoor
open Go.RowKit Go.Joins

set_option maxHeartbeats 1000000 in
set_option maxRecDepth 100000 in
theorem dblS_off (a b : Int) (p : P3) (w : World) (g : ¬ PtG a b p) : Calls Tryd.prog 15 #[.agg #[.int .i64 a, .int .i64 b], .agg #[.int .i64 p.x, .int .i64 p.y, .int .i64 p.e]] w (GivesPB w 0 0 0 false) := by
  have h := Below.refl w.heap.size w
  have hA := below_alloc1 w (.cells #[.int .i64 a, .int .i64 b] 29)
  have hxc := Box.new w 29 #[.int .i64 a, .int .i64 b]
  replace h := Below.step h hA
  clear hA
  have hA := below_alloc1 (w.alloc (.cells #[.int .i64 a, .int .i64 b] 29)) (.cells #[.int .i64 p.x, .int .i64 p.y, .int .i64 p.e] 26)
  have hxp := Box.new (w.alloc (.cells #[.int .i64 a, .int .i64 b] 29)) 26 #[.int .i64 p.x, .int .i64 p.y, .int .i64 p.e]
  rw [show (w.alloc (.cells #[.int .i64 a, .int .i64 b] 29)).heap.size = w.heap.size + 1 from by simp] at hxp
  replace h := Below.step h hA
  replace hxc := hxc.kept hA
  clear hA
  have hA := below_alloc1 ((w.alloc (.cells #[.int .i64 a, .int .i64 b] 29)).alloc (.cells #[.int .i64 p.x, .int .i64 p.y, .int .i64 p.e] 26)) (.cells #[.int .i64 0, .int .i64 0, .int .i64 0] 26)
  have hxr := Box.new ((w.alloc (.cells #[.int .i64 a, .int .i64 b] 29)).alloc (.cells #[.int .i64 p.x, .int .i64 p.y, .int .i64 p.e] 26)) 26 #[.int .i64 0, .int .i64 0, .int .i64 0]
  rw [show ((w.alloc (.cells #[.int .i64 a, .int .i64 b] 29)).alloc (.cells #[.int .i64 p.x, .int .i64 p.y, .int .i64 p.e] 26)).heap.size = w.heap.size + 2 from by simp] at hxr
  replace h := Below.step h hA
  replace hxc := hxc.kept hA
  replace hxp := hxp.kept hA
  clear hA
  obtain ⟨kc0, kc1⟩ := hxc.two
  have lc := hxc.lt
  obtain ⟨kp0, kp1, kp2⟩ := hxp.three
  have lp := hxp.lt
  obtain ⟨kr0, kr1, kr2⟩ := hxr.three
  have lr := hxr.lt
  go_enter Tryd.func15, Tryd.ntmps15
  go_wp2_with fail
  refine (isPtS_off a b p _ g).mono ?_
  rintro e w1 ⟨rfl, hb⟩
  replace h := Below.step h hb
  replace hxc := hxc.kept hb
  replace hxp := hxp.kept hb
  replace hxr := hxr.kept hb
  clear hb kc0 kc1 lc kp0 kp1 kp2 lp kr0 kr1 kr2 lr
  obtain ⟨kc0, kc1⟩ := hxc.two
  have lc := hxc.lt
  obtain ⟨kp0, kp1, kp2⟩ := hxp.three
  have lp := hxp.lt
  obtain ⟨kr0, kr1, kr2⟩ := hxr.three
  have lr := hxr.lt
  have fr0 := hxr.free 0
  have fr1 := hxr.free 1
  have fr2 := hxr.free 2
  obtain ⟨sr0, sr1, sr2⟩ := (((hxr.set 0 (.int .i64 0)).set 1 (.int .i64 0)).set 2 (.int .i64 0)).three
  go_wp2_with fail
  refine bodyPost_ret (v := .tuple #[.agg #[.int .i64 0, .int .i64 0, .int .i64 0], .bool false]) (by simp [results, Tryd.results15, go_sem, sr0, sr1, sr2]) (by rfl) ⟨by rfl, ?_⟩
  exact below_sets3 h (by omega) _ _ _


set_option maxHeartbeats 1000000 in
set_option maxRecDepth 100000 in
theorem dblS_c (a b : Int) (p : P3) (w : World) (g : PtG a b p) (x y u : Int) (ok : Bool) (c1 : ∀ W : World, Calls Tryd.prog 32 #[.agg #[.int .i64 a, .int .i64 b], .agg #[.int .i64 p.x, .int .i64 p.y, .int .i64 p.e], .agg #[.int .i64 p.x, .int .i64 p.y, .int .i64 p.e]] W (GivesPB W x y u ok)) : Calls Tryd.prog 15 #[.agg #[.int .i64 a, .int .i64 b], .agg #[.int .i64 p.x, .int .i64 p.y, .int .i64 p.e]] w (GivesPB w x y u ok) := by
  have cp := fun W => isPtS_on a b p W g
  replace cp := Lib.hid cp
  replace c1 := Lib.hid c1
  clear g
  have h := Below.refl w.heap.size w
  have hA := below_alloc1 w (.cells #[.int .i64 a, .int .i64 b] 29)
  have hxc := Box.new w 29 #[.int .i64 a, .int .i64 b]
  replace h := Below.step h hA
  clear hA
  have hA := below_alloc1 (w.alloc (.cells #[.int .i64 a, .int .i64 b] 29)) (.cells #[.int .i64 p.x, .int .i64 p.y, .int .i64 p.e] 26)
  have hxp := Box.new (w.alloc (.cells #[.int .i64 a, .int .i64 b] 29)) 26 #[.int .i64 p.x, .int .i64 p.y, .int .i64 p.e]
  rw [show (w.alloc (.cells #[.int .i64 a, .int .i64 b] 29)).heap.size = w.heap.size + 1 from by simp] at hxp
  replace h := Below.step h hA
  replace hxc := hxc.kept hA
  clear hA
  have hA := below_alloc1 ((w.alloc (.cells #[.int .i64 a, .int .i64 b] 29)).alloc (.cells #[.int .i64 p.x, .int .i64 p.y, .int .i64 p.e] 26)) (.cells #[.int .i64 0, .int .i64 0, .int .i64 0] 26)
  have hxr := Box.new ((w.alloc (.cells #[.int .i64 a, .int .i64 b] 29)).alloc (.cells #[.int .i64 p.x, .int .i64 p.y, .int .i64 p.e] 26)) 26 #[.int .i64 0, .int .i64 0, .int .i64 0]
  rw [show ((w.alloc (.cells #[.int .i64 a, .int .i64 b] 29)).alloc (.cells #[.int .i64 p.x, .int .i64 p.y, .int .i64 p.e] 26)).heap.size = w.heap.size + 2 from by simp] at hxr
  replace h := Below.step h hA
  replace hxc := hxc.kept hA
  replace hxp := hxp.kept hA
  clear hA
  obtain ⟨kc0, kc1⟩ := hxc.two
  have lc := hxc.lt
  obtain ⟨kp0, kp1, kp2⟩ := hxp.three
  have lp := hxp.lt
  obtain ⟨kr0, kr1, kr2⟩ := hxr.three
  have lr := hxr.lt
  go_enter Tryd.func15, Tryd.ntmps15
  go_wp2_with fail
  refine (cp.out _).mono ?_
  rintro e w1 ⟨rfl, hb⟩
  replace h := Below.step h hb
  replace hxc := hxc.kept hb
  replace hxp := hxp.kept hb
  replace hxr := hxr.kept hb
  clear hb kc0 kc1 lc kp0 kp1 kp2 lp kr0 kr1 kr2 lr
  obtain ⟨kc0, kc1⟩ := hxc.two
  have lc := hxc.lt
  obtain ⟨kp0, kp1, kp2⟩ := hxp.three
  have lp := hxp.lt
  obtain ⟨kr0, kr1, kr2⟩ := hxr.three
  have lr := hxr.lt
  go_wp2_with fail
  refine (c1.out _).mono ?_
  rintro e w2 ⟨rfl, hb⟩
  replace h := Below.step h hb
  replace hxc := hxc.kept hb
  replace hxp := hxp.kept hb
  replace hxr := hxr.kept hb
  clear hb kc0 kc1 lc kp0 kp1 kp2 lp kr0 kr1 kr2 lr
  obtain ⟨kc0, kc1⟩ := hxc.two
  have lc := hxc.lt
  obtain ⟨kp0, kp1, kp2⟩ := hxp.three
  have lp := hxp.lt
  obtain ⟨kr0, kr1, kr2⟩ := hxr.three
  have lr := hxr.lt
  have fr0 := hxr.free 0
  have fr1 := hxr.free 1
  have fr2 := hxr.free 2
  obtain ⟨sr0, sr1, sr2⟩ := (((hxr.set 0 (.int .i64 x)).set 1 (.int .i64 y)).set 2 (.int .i64 u)).three
  go_wp2_with fail
  refine bodyPost_ret (v := .tuple #[.agg #[.int .i64 x, .int .i64 y, .int .i64 u], .bool ok]) (by simp [results, Tryd.results15, go_sem, sr0, sr1, sr2]) (by rfl) ⟨by rfl, ?_⟩
  exact below_sets3 h (by omega) _ _ _


set_option maxHeartbeats 1000000 in
set_option maxRecDepth 100000 in
theorem dblI_c (a b : Int) (p : P3) (w : World) (hL : Lim w) (x y u : Int) (ok : Bool) (c1 : ∀ W : World, Lim W → Calls Tryd.prog 13 #[.agg #[.int .i64 a, .int .i64 b], .agg #[.int .i64 p.x, .int .i64 p.y, .int .i64 p.e], .agg #[.int .i64 p.x, .int .i64 p.y, .int .i64 p.e]] W (GivesPB W x y u ok)) : Calls Tryd.prog 16 #[.agg #[.int .i64 a, .int .i64 b], .agg #[.int .i64 p.x, .int .i64 p.y, .int .i64 p.e]] w (GivesPB w x y u ok) := by
  replace c1 := Lib.hid c1
  have h := Below.refl w.heap.size w
  have hA := below_alloc1 w (.cells #[.int .i64 a, .int .i64 b] 29)
  have hxc := Box.new w 29 #[.int .i64 a, .int .i64 b]
  replace h := Below.step h hA
  clear hA
  have hA := below_alloc1 (w.alloc (.cells #[.int .i64 a, .int .i64 b] 29)) (.cells #[.int .i64 p.x, .int .i64 p.y, .int .i64 p.e] 26)
  have hxp := Box.new (w.alloc (.cells #[.int .i64 a, .int .i64 b] 29)) 26 #[.int .i64 p.x, .int .i64 p.y, .int .i64 p.e]
  rw [show (w.alloc (.cells #[.int .i64 a, .int .i64 b] 29)).heap.size = w.heap.size + 1 from by simp] at hxp
  replace h := Below.step h hA
  replace hxc := hxc.kept hA
  clear hA
  have hA := below_alloc1 ((w.alloc (.cells #[.int .i64 a, .int .i64 b] 29)).alloc (.cells #[.int .i64 p.x, .int .i64 p.y, .int .i64 p.e] 26)) (.cells #[.int .i64 0, .int .i64 0, .int .i64 0] 26)
  have hxr := Box.new ((w.alloc (.cells #[.int .i64 a, .int .i64 b] 29)).alloc (.cells #[.int .i64 p.x, .int .i64 p.y, .int .i64 p.e] 26)) 26 #[.int .i64 0, .int .i64 0, .int .i64 0]
  rw [show ((w.alloc (.cells #[.int .i64 a, .int .i64 b] 29)).alloc (.cells #[.int .i64 p.x, .int .i64 p.y, .int .i64 p.e] 26)).heap.size = w.heap.size + 2 from by simp] at hxr
  replace h := Below.step h hA
  replace hxc := hxc.kept hA
  replace hxp := hxp.kept hA
  clear hA
  obtain ⟨kc0, kc1⟩ := hxc.two
  have lc := hxc.lt
  obtain ⟨kp0, kp1, kp2⟩ := hxp.three
  have lp := hxp.lt
  obtain ⟨kr0, kr1, kr2⟩ := hxr.three
  have lr := hxr.lt
  replace hL := hL.kept h
  go_enter Tryd.func16, Tryd.ntmps16
  go_wp2_with fail
  refine (c1.out _ hL).mono ?_
  rintro e w1 ⟨rfl, hb⟩
  replace h := Below.step h hb
  replace hxc := hxc.kept hb
  replace hxp := hxp.kept hb
  replace hxr := hxr.kept hb
  replace hL := hL.kept hb
  clear hb kc0 kc1 lc kp0 kp1 kp2 lp kr0 kr1 kr2 lr
  obtain ⟨kc0, kc1⟩ := hxc.two
  have lc := hxc.lt
  obtain ⟨kp0, kp1, kp2⟩ := hxp.three
  have lp := hxp.lt
  obtain ⟨kr0, kr1, kr2⟩ := hxr.three
  have lr := hxr.lt
  have fr0 := hxr.free 0
  have fr1 := hxr.free 1
  have fr2 := hxr.free 2
  obtain ⟨sr0, sr1, sr2⟩ := (((hxr.set 0 (.int .i64 x)).set 1 (.int .i64 y)).set 2 (.int .i64 u)).three
  go_wp2_with fail
  refine bodyPost_ret (v := .tuple #[.agg #[.int .i64 x, .int .i64 y, .int .i64 u], .bool ok]) (by simp [results, Tryd.results16, go_sem, sr0, sr1, sr2]) (by rfl) ⟨by rfl, ?_⟩
  exact below_sets3 h (by omega) _ _ _


set_option maxHeartbeats 1000000 in
set_option maxRecDepth 100000 in
theorem colS_off0 (a b : Int) (p q r : P3) (w : World) (g : ¬ PtG a b p) : Calls Tryd.prog 26 #[.agg #[.int .i64 a, .int .i64 b], .agg #[.int .i64 p.x, .int .i64 p.y, .int .i64 p.e], .agg #[.int .i64 q.x, .int .i64 q.y, .int .i64 q.e], .agg #[.int .i64 r.x, .int .i64 r.y, .int .i64 r.e]] w (GivesBB w false false) := by
  have h := Below.refl w.heap.size w
  have hA := below_alloc1 w (.cells #[.int .i64 a, .int .i64 b] 29)
  have hxc := Box.new w 29 #[.int .i64 a, .int .i64 b]
  replace h := Below.step h hA
  clear hA
  have hA := below_alloc1 (w.alloc (.cells #[.int .i64 a, .int .i64 b] 29)) (.cells #[.int .i64 p.x, .int .i64 p.y, .int .i64 p.e] 26)
  have hxp := Box.new (w.alloc (.cells #[.int .i64 a, .int .i64 b] 29)) 26 #[.int .i64 p.x, .int .i64 p.y, .int .i64 p.e]
  rw [show (w.alloc (.cells #[.int .i64 a, .int .i64 b] 29)).heap.size = w.heap.size + 1 from by simp] at hxp
  replace h := Below.step h hA
  replace hxc := hxc.kept hA
  clear hA
  have hA := below_alloc1 ((w.alloc (.cells #[.int .i64 a, .int .i64 b] 29)).alloc (.cells #[.int .i64 p.x, .int .i64 p.y, .int .i64 p.e] 26)) (.cells #[.int .i64 q.x, .int .i64 q.y, .int .i64 q.e] 26)
  have hxq := Box.new ((w.alloc (.cells #[.int .i64 a, .int .i64 b] 29)).alloc (.cells #[.int .i64 p.x, .int .i64 p.y, .int .i64 p.e] 26)) 26 #[.int .i64 q.x, .int .i64 q.y, .int .i64 q.e]
  rw [show ((w.alloc (.cells #[.int .i64 a, .int .i64 b] 29)).alloc (.cells #[.int .i64 p.x, .int .i64 p.y, .int .i64 p.e] 26)).heap.size = w.heap.size + 2 from by simp] at hxq
  replace h := Below.step h hA
  replace hxc := hxc.kept hA
  replace hxp := hxp.kept hA
  clear hA
  have hA := below_alloc1 (((w.alloc (.cells #[.int .i64 a, .int .i64 b] 29)).alloc (.cells #[.int .i64 p.x, .int .i64 p.y, .int .i64 p.e] 26)).alloc (.cells #[.int .i64 q.x, .int .i64 q.y, .int .i64 q.e] 26)) (.cells #[.int .i64 r.x, .int .i64 r.y, .int .i64 r.e] 26)
  have hxr := Box.new (((w.alloc (.cells #[.int .i64 a, .int .i64 b] 29)).alloc (.cells #[.int .i64 p.x, .int .i64 p.y, .int .i64 p.e] 26)).alloc (.cells #[.int .i64 q.x, .int .i64 q.y, .int .i64 q.e] 26)) 26 #[.int .i64 r.x, .int .i64 r.y, .int .i64 r.e]
  rw [show (((w.alloc (.cells #[.int .i64 a, .int .i64 b] 29)).alloc (.cells #[.int .i64 p.x, .int .i64 p.y, .int .i64 p.e] 26)).alloc (.cells #[.int .i64 q.x, .int .i64 q.y, .int .i64 q.e] 26)).heap.size = w.heap.size + 3 from by simp] at hxr
  replace h := Below.step h hA
  replace hxc := hxc.kept hA
  replace hxp := hxp.kept hA
  replace hxq := hxq.kept hA
  clear hA
  obtain ⟨kc0, kc1⟩ := hxc.two
  have lc := hxc.lt
  obtain ⟨kp0, kp1, kp2⟩ := hxp.three
  have lp := hxp.lt
  obtain ⟨kq0, kq1, kq2⟩ := hxq.three
  have lq := hxq.lt
  obtain ⟨kr0, kr1, kr2⟩ := hxr.three
  have lr := hxr.lt
  go_enter Tryd.func26, Tryd.ntmps26
  go_wp2_with fail
  refine (isPtS_off a b p _ g).mono ?_
  rintro e w1 ⟨rfl, hb⟩
  replace h := Below.step h hb
  replace hxc := hxc.kept hb
  replace hxp := hxp.kept hb
  replace hxq := hxq.kept hb
  replace hxr := hxr.kept hb
  clear hb kc0 kc1 lc kp0 kp1 kp2 lp kq0 kq1 kq2 lq kr0 kr1 kr2 lr
  obtain ⟨kc0, kc1⟩ := hxc.two
  have lc := hxc.lt
  obtain ⟨kp0, kp1, kp2⟩ := hxp.three
  have lp := hxp.lt
  obtain ⟨kq0, kq1, kq2⟩ := hxq.three
  have lq := hxq.lt
  obtain ⟨kr0, kr1, kr2⟩ := hxr.three
  have lr := hxr.lt
  go_wp2_with fail
  go_ret2
  exact ⟨rfl, h⟩


set_option maxHeartbeats 1000000 in
set_option maxRecDepth 100000 in
theorem colS_off1 (a b : Int) (p q r : P3) (w : World) (g : PtG a b p) (g' : ¬ PtG a b q) : Calls Tryd.prog 26 #[.agg #[.int .i64 a, .int .i64 b], .agg #[.int .i64 p.x, .int .i64 p.y, .int .i64 p.e], .agg #[.int .i64 q.x, .int .i64 q.y, .int .i64 q.e], .agg #[.int .i64 r.x, .int .i64 r.y, .int .i64 r.e]] w (GivesBB w false false) := by
  have h := Below.refl w.heap.size w
  have hA := below_alloc1 w (.cells #[.int .i64 a, .int .i64 b] 29)
  have hxc := Box.new w 29 #[.int .i64 a, .int .i64 b]
  replace h := Below.step h hA
  clear hA
  have hA := below_alloc1 (w.alloc (.cells #[.int .i64 a, .int .i64 b] 29)) (.cells #[.int .i64 p.x, .int .i64 p.y, .int .i64 p.e] 26)
  have hxp := Box.new (w.alloc (.cells #[.int .i64 a, .int .i64 b] 29)) 26 #[.int .i64 p.x, .int .i64 p.y, .int .i64 p.e]
  rw [show (w.alloc (.cells #[.int .i64 a, .int .i64 b] 29)).heap.size = w.heap.size + 1 from by simp] at hxp
  replace h := Below.step h hA
  replace hxc := hxc.kept hA
  clear hA
  have hA := below_alloc1 ((w.alloc (.cells #[.int .i64 a, .int .i64 b] 29)).alloc (.cells #[.int .i64 p.x, .int .i64 p.y, .int .i64 p.e] 26)) (.cells #[.int .i64 q.x, .int .i64 q.y, .int .i64 q.e] 26)
  have hxq := Box.new ((w.alloc (.cells #[.int .i64 a, .int .i64 b] 29)).alloc (.cells #[.int .i64 p.x, .int .i64 p.y, .int .i64 p.e] 26)) 26 #[.int .i64 q.x, .int .i64 q.y, .int .i64 q.e]
  rw [show ((w.alloc (.cells #[.int .i64 a, .int .i64 b] 29)).alloc (.cells #[.int .i64 p.x, .int .i64 p.y, .int .i64 p.e] 26)).heap.size = w.heap.size + 2 from by simp] at hxq
  replace h := Below.step h hA
  replace hxc := hxc.kept hA
  replace hxp := hxp.kept hA
  clear hA
  have hA := below_alloc1 (((w.alloc (.cells #[.int .i64 a, .int .i64 b] 29)).alloc (.cells #[.int .i64 p.x, .int .i64 p.y, .int .i64 p.e] 26)).alloc (.cells #[.int .i64 q.x, .int .i64 q.y, .int .i64 q.e] 26)) (.cells #[.int .i64 r.x, .int .i64 r.y, .int .i64 r.e] 26)
  have hxr := Box.new (((w.alloc (.cells #[.int .i64 a, .int .i64 b] 29)).alloc (.cells #[.int .i64 p.x, .int .i64 p.y, .int .i64 p.e] 26)).alloc (.cells #[.int .i64 q.x, .int .i64 q.y, .int .i64 q.e] 26)) 26 #[.int .i64 r.x, .int .i64 r.y, .int .i64 r.e]
  rw [show (((w.alloc (.cells #[.int .i64 a, .int .i64 b] 29)).alloc (.cells #[.int .i64 p.x, .int .i64 p.y, .int .i64 p.e] 26)).alloc (.cells #[.int .i64 q.x, .int .i64 q.y, .int .i64 q.e] 26)).heap.size = w.heap.size + 3 from by simp] at hxr
  replace h := Below.step h hA
  replace hxc := hxc.kept hA
  replace hxp := hxp.kept hA
  replace hxq := hxq.kept hA
  clear hA
  obtain ⟨kc0, kc1⟩ := hxc.two
  have lc := hxc.lt
  obtain ⟨kp0, kp1, kp2⟩ := hxp.three
  have lp := hxp.lt
  obtain ⟨kq0, kq1, kq2⟩ := hxq.three
  have lq := hxq.lt
  obtain ⟨kr0, kr1, kr2⟩ := hxr.three
  have lr := hxr.lt
  go_enter Tryd.func26, Tryd.ntmps26
  go_wp2_with fail
  refine (isPtS_on a b p _ g).mono ?_
  rintro e w1 ⟨rfl, hb⟩
  replace h := Below.step h hb
  replace hxc := hxc.kept hb
  replace hxp := hxp.kept hb
  replace hxq := hxq.kept hb
  replace hxr := hxr.kept hb
  clear hb kc0 kc1 lc kp0 kp1 kp2 lp kq0 kq1 kq2 lq kr0 kr1 kr2 lr
  obtain ⟨kc0, kc1⟩ := hxc.two
  have lc := hxc.lt
  obtain ⟨kp0, kp1, kp2⟩ := hxp.three
  have lp := hxp.lt
  obtain ⟨kq0, kq1, kq2⟩ := hxq.three
  have lq := hxq.lt
  obtain ⟨kr0, kr1, kr2⟩ := hxr.three
  have lr := hxr.lt
  go_wp2_with fail
  refine (isPtS_off a b q _ g').mono ?_
  rintro e w2 ⟨rfl, hb⟩
  replace h := Below.step h hb
  replace hxc := hxc.kept hb
  replace hxp := hxp.kept hb
  replace hxq := hxq.kept hb
  replace hxr := hxr.kept hb
  clear hb kc0 kc1 lc kp0 kp1 kp2 lp kq0 kq1 kq2 lq kr0 kr1 kr2 lr
  obtain ⟨kc0, kc1⟩ := hxc.two
  have lc := hxc.lt
  obtain ⟨kp0, kp1, kp2⟩ := hxp.three
  have lp := hxp.lt
  obtain ⟨kq0, kq1, kq2⟩ := hxq.three
  have lq := hxq.lt
  obtain ⟨kr0, kr1, kr2⟩ := hxr.three
  have lr := hxr.lt
  go_wp2_with fail
  go_ret2
  exact ⟨rfl, h⟩


set_option maxHeartbeats 1000000 in
set_option maxRecDepth 100000 in
theorem colS_off2 (a b : Int) (p q r : P3) (w : World) (g : PtG a b p) (g' : PtG a b q) (g2 : ¬ PtG a b r) : Calls Tryd.prog 26 #[.agg #[.int .i64 a, .int .i64 b], .agg #[.int .i64 p.x, .int .i64 p.y, .int .i64 p.e], .agg #[.int .i64 q.x, .int .i64 q.y, .int .i64 q.e], .agg #[.int .i64 r.x, .int .i64 r.y, .int .i64 r.e]] w (GivesBB w false false) := by
  have h := Below.refl w.heap.size w
  have hA := below_alloc1 w (.cells #[.int .i64 a, .int .i64 b] 29)
  have hxc := Box.new w 29 #[.int .i64 a, .int .i64 b]
  replace h := Below.step h hA
  clear hA
  have hA := below_alloc1 (w.alloc (.cells #[.int .i64 a, .int .i64 b] 29)) (.cells #[.int .i64 p.x, .int .i64 p.y, .int .i64 p.e] 26)
  have hxp := Box.new (w.alloc (.cells #[.int .i64 a, .int .i64 b] 29)) 26 #[.int .i64 p.x, .int .i64 p.y, .int .i64 p.e]
  rw [show (w.alloc (.cells #[.int .i64 a, .int .i64 b] 29)).heap.size = w.heap.size + 1 from by simp] at hxp
  replace h := Below.step h hA
  replace hxc := hxc.kept hA
  clear hA
  have hA := below_alloc1 ((w.alloc (.cells #[.int .i64 a, .int .i64 b] 29)).alloc (.cells #[.int .i64 p.x, .int .i64 p.y, .int .i64 p.e] 26)) (.cells #[.int .i64 q.x, .int .i64 q.y, .int .i64 q.e] 26)
  have hxq := Box.new ((w.alloc (.cells #[.int .i64 a, .int .i64 b] 29)).alloc (.cells #[.int .i64 p.x, .int .i64 p.y, .int .i64 p.e] 26)) 26 #[.int .i64 q.x, .int .i64 q.y, .int .i64 q.e]
  rw [show ((w.alloc (.cells #[.int .i64 a, .int .i64 b] 29)).alloc (.cells #[.int .i64 p.x, .int .i64 p.y, .int .i64 p.e] 26)).heap.size = w.heap.size + 2 from by simp] at hxq
  replace h := Below.step h hA
  replace hxc := hxc.kept hA
  replace hxp := hxp.kept hA
  clear hA
  have hA := below_alloc1 (((w.alloc (.cells #[.int .i64 a, .int .i64 b] 29)).alloc (.cells #[.int .i64 p.x, .int .i64 p.y, .int .i64 p.e] 26)).alloc (.cells #[.int .i64 q.x, .int .i64 q.y, .int .i64 q.e] 26)) (.cells #[.int .i64 r.x, .int .i64 r.y, .int .i64 r.e] 26)
  have hxr := Box.new (((w.alloc (.cells #[.int .i64 a, .int .i64 b] 29)).alloc (.cells #[.int .i64 p.x, .int .i64 p.y, .int .i64 p.e] 26)).alloc (.cells #[.int .i64 q.x, .int .i64 q.y, .int .i64 q.e] 26)) 26 #[.int .i64 r.x, .int .i64 r.y, .int .i64 r.e]
  rw [show (((w.alloc (.cells #[.int .i64 a, .int .i64 b] 29)).alloc (.cells #[.int .i64 p.x, .int .i64 p.y, .int .i64 p.e] 26)).alloc (.cells #[.int .i64 q.x, .int .i64 q.y, .int .i64 q.e] 26)).heap.size = w.heap.size + 3 from by simp] at hxr
  replace h := Below.step h hA
  replace hxc := hxc.kept hA
  replace hxp := hxp.kept hA
  replace hxq := hxq.kept hA
  clear hA
  obtain ⟨kc0, kc1⟩ := hxc.two
  have lc := hxc.lt
  obtain ⟨kp0, kp1, kp2⟩ := hxp.three
  have lp := hxp.lt
  obtain ⟨kq0, kq1, kq2⟩ := hxq.three
  have lq := hxq.lt
  obtain ⟨kr0, kr1, kr2⟩ := hxr.three
  have lr := hxr.lt
  go_enter Tryd.func26, Tryd.ntmps26
  go_wp2_with fail
  refine (isPtS_on a b p _ g).mono ?_
  rintro e w1 ⟨rfl, hb⟩
  replace h := Below.step h hb
  replace hxc := hxc.kept hb
  replace hxp := hxp.kept hb
  replace hxq := hxq.kept hb
  replace hxr := hxr.kept hb
  clear hb kc0 kc1 lc kp0 kp1 kp2 lp kq0 kq1 kq2 lq kr0 kr1 kr2 lr
  obtain ⟨kc0, kc1⟩ := hxc.two
  have lc := hxc.lt
  obtain ⟨kp0, kp1, kp2⟩ := hxp.three
  have lp := hxp.lt
  obtain ⟨kq0, kq1, kq2⟩ := hxq.three
  have lq := hxq.lt
  obtain ⟨kr0, kr1, kr2⟩ := hxr.three
  have lr := hxr.lt
  go_wp2_with fail
  refine (isPtS_on a b q _ g').mono ?_
  rintro e w2 ⟨rfl, hb⟩
  replace h := Below.step h hb
  replace hxc := hxc.kept hb
  replace hxp := hxp.kept hb
  replace hxq := hxq.kept hb
  replace hxr := hxr.kept hb
  clear hb kc0 kc1 lc kp0 kp1 kp2 lp kq0 kq1 kq2 lq kr0 kr1 kr2 lr
  obtain ⟨kc0, kc1⟩ := hxc.two
  have lc := hxc.lt
  obtain ⟨kp0, kp1, kp2⟩ := hxp.three
  have lp := hxp.lt
  obtain ⟨kq0, kq1, kq2⟩ := hxq.three
  have lq := hxq.lt
  obtain ⟨kr0, kr1, kr2⟩ := hxr.three
  have lr := hxr.lt
  go_wp2_with fail
  refine (isPtS_off a b r _ g2).mono ?_
  rintro e w3 ⟨rfl, hb⟩
  replace h := Below.step h hb
  replace hxc := hxc.kept hb
  replace hxp := hxp.kept hb
  replace hxq := hxq.kept hb
  replace hxr := hxr.kept hb
  clear hb kc0 kc1 lc kp0 kp1 kp2 lp kq0 kq1 kq2 lq kr0 kr1 kr2 lr
  obtain ⟨kc0, kc1⟩ := hxc.two
  have lc := hxc.lt
  obtain ⟨kp0, kp1, kp2⟩ := hxp.three
  have lp := hxp.lt
  obtain ⟨kq0, kq1, kq2⟩ := hxq.three
  have lq := hxq.lt
  obtain ⟨kr0, kr1, kr2⟩ := hxr.three
  have lr := hxr.lt
  go_wp2_with fail
  go_ret2
  exact ⟨rfl, h⟩


set_option maxHeartbeats 1000000 in
set_option maxRecDepth 100000 in
theorem colS_no (a b : Int) (p q r : P3) (w : World) (g : PtG a b p) (g' : PtG a b q) (g2 : PtG a b r) (x y u : Int) (c1 : ∀ W : World, Calls Tryd.prog 32 #[.agg #[.int .i64 a, .int .i64 b], .agg #[.int .i64 p.x, .int .i64 p.y, .int .i64 p.e], .agg #[.int .i64 q.x, .int .i64 q.y, .int .i64 q.e]] W (GivesPB W x y u false)) : Calls Tryd.prog 26 #[.agg #[.int .i64 a, .int .i64 b], .agg #[.int .i64 p.x, .int .i64 p.y, .int .i64 p.e], .agg #[.int .i64 q.x, .int .i64 q.y, .int .i64 q.e], .agg #[.int .i64 r.x, .int .i64 r.y, .int .i64 r.e]] w (GivesBB w false false) := by
  have cp := fun W => isPtS_on a b p W g
  have cq := fun W => isPtS_on a b q W g'
  have cr := fun W => isPtS_on a b r W g2
  replace cp := Lib.hid cp
  replace cq := Lib.hid cq
  replace cr := Lib.hid cr
  replace c1 := Lib.hid c1
  clear g g' g2
  have h := Below.refl w.heap.size w
  have hA := below_alloc1 w (.cells #[.int .i64 a, .int .i64 b] 29)
  have hxc := Box.new w 29 #[.int .i64 a, .int .i64 b]
  replace h := Below.step h hA
  clear hA
  have hA := below_alloc1 (w.alloc (.cells #[.int .i64 a, .int .i64 b] 29)) (.cells #[.int .i64 p.x, .int .i64 p.y, .int .i64 p.e] 26)
  have hxp := Box.new (w.alloc (.cells #[.int .i64 a, .int .i64 b] 29)) 26 #[.int .i64 p.x, .int .i64 p.y, .int .i64 p.e]
  rw [show (w.alloc (.cells #[.int .i64 a, .int .i64 b] 29)).heap.size = w.heap.size + 1 from by simp] at hxp
  replace h := Below.step h hA
  replace hxc := hxc.kept hA
  clear hA
  have hA := below_alloc1 ((w.alloc (.cells #[.int .i64 a, .int .i64 b] 29)).alloc (.cells #[.int .i64 p.x, .int .i64 p.y, .int .i64 p.e] 26)) (.cells #[.int .i64 q.x, .int .i64 q.y, .int .i64 q.e] 26)
  have hxq := Box.new ((w.alloc (.cells #[.int .i64 a, .int .i64 b] 29)).alloc (.cells #[.int .i64 p.x, .int .i64 p.y, .int .i64 p.e] 26)) 26 #[.int .i64 q.x, .int .i64 q.y, .int .i64 q.e]
  rw [show ((w.alloc (.cells #[.int .i64 a, .int .i64 b] 29)).alloc (.cells #[.int .i64 p.x, .int .i64 p.y, .int .i64 p.e] 26)).heap.size = w.heap.size + 2 from by simp] at hxq
  replace h := Below.step h hA
  replace hxc := hxc.kept hA
  replace hxp := hxp.kept hA
  clear hA
  have hA := below_alloc1 (((w.alloc (.cells #[.int .i64 a, .int .i64 b] 29)).alloc (.cells #[.int .i64 p.x, .int .i64 p.y, .int .i64 p.e] 26)).alloc (.cells #[.int .i64 q.x, .int .i64 q.y, .int .i64 q.e] 26)) (.cells #[.int .i64 r.x, .int .i64 r.y, .int .i64 r.e] 26)
  have hxr := Box.new (((w.alloc (.cells #[.int .i64 a, .int .i64 b] 29)).alloc (.cells #[.int .i64 p.x, .int .i64 p.y, .int .i64 p.e] 26)).alloc (.cells #[.int .i64 q.x, .int .i64 q.y, .int .i64 q.e] 26)) 26 #[.int .i64 r.x, .int .i64 r.y, .int .i64 r.e]
  rw [show (((w.alloc (.cells #[.int .i64 a, .int .i64 b] 29)).alloc (.cells #[.int .i64 p.x, .int .i64 p.y, .int .i64 p.e] 26)).alloc (.cells #[.int .i64 q.x, .int .i64 q.y, .int .i64 q.e] 26)).heap.size = w.heap.size + 3 from by simp] at hxr
  replace h := Below.step h hA
  replace hxc := hxc.kept hA
  replace hxp := hxp.kept hA
  replace hxq := hxq.kept hA
  clear hA
  obtain ⟨kc0, kc1⟩ := hxc.two
  have lc := hxc.lt
  obtain ⟨kp0, kp1, kp2⟩ := hxp.three
  have lp := hxp.lt
  obtain ⟨kq0, kq1, kq2⟩ := hxq.three
  have lq := hxq.lt
  obtain ⟨kr0, kr1, kr2⟩ := hxr.three
  have lr := hxr.lt
  go_enter Tryd.func26, Tryd.ntmps26
  go_wp2_with fail
  refine (cp.out _).mono ?_
  rintro e w1 ⟨rfl, hb⟩
  replace h := Below.step h hb
  replace hxc := hxc.kept hb
  replace hxp := hxp.kept hb
  replace hxq := hxq.kept hb
  replace hxr := hxr.kept hb
  clear hb kc0 kc1 lc kp0 kp1 kp2 lp kq0 kq1 kq2 lq kr0 kr1 kr2 lr
  obtain ⟨kc0, kc1⟩ := hxc.two
  have lc := hxc.lt
  obtain ⟨kp0, kp1, kp2⟩ := hxp.three
  have lp := hxp.lt
  obtain ⟨kq0, kq1, kq2⟩ := hxq.three
  have lq := hxq.lt
  obtain ⟨kr0, kr1, kr2⟩ := hxr.three
  have lr := hxr.lt
  go_wp2_with fail
  refine (cq.out _).mono ?_
  rintro e w2 ⟨rfl, hb⟩
  replace h := Below.step h hb
  replace hxc := hxc.kept hb
  replace hxp := hxp.kept hb
  replace hxq := hxq.kept hb
  replace hxr := hxr.kept hb
  clear hb kc0 kc1 lc kp0 kp1 kp2 lp kq0 kq1 kq2 lq kr0 kr1 kr2 lr
  obtain ⟨kc0, kc1⟩ := hxc.two
  have lc := hxc.lt
  obtain ⟨kp0, kp1, kp2⟩ := hxp.three
  have lp := hxp.lt
  obtain ⟨kq0, kq1, kq2⟩ := hxq.three
  have lq := hxq.lt
  obtain ⟨kr0, kr1, kr2⟩ := hxr.three
  have lr := hxr.lt
  go_wp2_with fail
  refine (cr.out _).mono ?_
  rintro e w3 ⟨rfl, hb⟩
  replace h := Below.step h hb
  replace hxc := hxc.kept hb
  replace hxp := hxp.kept hb
  replace hxq := hxq.kept hb
  replace hxr := hxr.kept hb
  clear hb kc0 kc1 lc kp0 kp1 kp2 lp kq0 kq1 kq2 lq kr0 kr1 kr2 lr
  obtain ⟨kc0, kc1⟩ := hxc.two
  have lc := hxc.lt
  obtain ⟨kp0, kp1, kp2⟩ := hxp.three
  have lp := hxp.lt
  obtain ⟨kq0, kq1, kq2⟩ := hxq.three
  have lq := hxq.lt
  obtain ⟨kr0, kr1, kr2⟩ := hxr.three
  have lr := hxr.lt
  go_wp2_with fail
  refine (c1.out _).mono ?_
  rintro e w4 ⟨rfl, hb⟩
  replace h := Below.step h hb
  replace hxc := hxc.kept hb
  replace hxp := hxp.kept hb
  replace hxq := hxq.kept hb
  replace hxr := hxr.kept hb
  clear hb kc0 kc1 lc kp0 kp1 kp2 lp kq0 kq1 kq2 lq kr0 kr1 kr2 lr
  obtain ⟨kc0, kc1⟩ := hxc.two
  have lc := hxc.lt
  obtain ⟨kp0, kp1, kp2⟩ := hxp.three
  have lp := hxp.lt
  obtain ⟨kq0, kq1, kq2⟩ := hxq.three
  have lq := hxq.lt
  obtain ⟨kr0, kr1, kr2⟩ := hxr.three
  have lr := hxr.lt
  go_wp2_with fail
  go_ret2
  exact ⟨rfl, Below.step h (below_alloc1 _ _)⟩


set_option maxHeartbeats 1000000 in
set_option maxRecDepth 100000 in
theorem colS_yes (a b : Int) (p q r s : P3) (w : World) (g : PtG a b p) (g' : PtG a b q) (g2 : PtG a b r) (c1 : ∀ W : World, Calls Tryd.prog 32 #[.agg #[.int .i64 a, .int .i64 b], .agg #[.int .i64 p.x, .int .i64 p.y, .int .i64 p.e], .agg #[.int .i64 q.x, .int .i64 q.y, .int .i64 q.e]] W (GivesPB W s.x s.y s.e true)) : Calls Tryd.prog 26 #[.agg #[.int .i64 a, .int .i64 b], .agg #[.int .i64 p.x, .int .i64 p.y, .int .i64 p.e], .agg #[.int .i64 q.x, .int .i64 q.y, .int .i64 q.e], .agg #[.int .i64 r.x, .int .i64 r.y, .int .i64 r.e]] w (GivesBB w (s.x == r.x && s.y == -r.y && s.e == r.e) true) := by
  have cp := fun W => isPtS_on a b p W g
  have cq := fun W => isPtS_on a b q W g'
  have cr := fun W => isPtS_on a b r W g2
  replace cp := Lib.hid cp
  replace cq := Lib.hid cq
  replace cr := Lib.hid cr
  replace c1 := Lib.hid c1
  have yb := g2.2.bd.2.2
  have co := fun W => minusS_any r W (by omega)
  replace co := Lib.hid co
  clear g g' g2
  have h := Below.refl w.heap.size w
  have hA := below_alloc1 w (.cells #[.int .i64 a, .int .i64 b] 29)
  have hxc := Box.new w 29 #[.int .i64 a, .int .i64 b]
  replace h := Below.step h hA
  clear hA
  have hA := below_alloc1 (w.alloc (.cells #[.int .i64 a, .int .i64 b] 29)) (.cells #[.int .i64 p.x, .int .i64 p.y, .int .i64 p.e] 26)
  have hxp := Box.new (w.alloc (.cells #[.int .i64 a, .int .i64 b] 29)) 26 #[.int .i64 p.x, .int .i64 p.y, .int .i64 p.e]
  rw [show (w.alloc (.cells #[.int .i64 a, .int .i64 b] 29)).heap.size = w.heap.size + 1 from by simp] at hxp
  replace h := Below.step h hA
  replace hxc := hxc.kept hA
  clear hA
  have hA := below_alloc1 ((w.alloc (.cells #[.int .i64 a, .int .i64 b] 29)).alloc (.cells #[.int .i64 p.x, .int .i64 p.y, .int .i64 p.e] 26)) (.cells #[.int .i64 q.x, .int .i64 q.y, .int .i64 q.e] 26)
  have hxq := Box.new ((w.alloc (.cells #[.int .i64 a, .int .i64 b] 29)).alloc (.cells #[.int .i64 p.x, .int .i64 p.y, .int .i64 p.e] 26)) 26 #[.int .i64 q.x, .int .i64 q.y, .int .i64 q.e]
  rw [show ((w.alloc (.cells #[.int .i64 a, .int .i64 b] 29)).alloc (.cells #[.int .i64 p.x, .int .i64 p.y, .int .i64 p.e] 26)).heap.size = w.heap.size + 2 from by simp] at hxq
  replace h := Below.step h hA
  replace hxc := hxc.kept hA
  replace hxp := hxp.kept hA
  clear hA
  have hA := below_alloc1 (((w.alloc (.cells #[.int .i64 a, .int .i64 b] 29)).alloc (.cells #[.int .i64 p.x, .int .i64 p.y, .int .i64 p.e] 26)).alloc (.cells #[.int .i64 q.x, .int .i64 q.y, .int .i64 q.e] 26)) (.cells #[.int .i64 r.x, .int .i64 r.y, .int .i64 r.e] 26)
  have hxr := Box.new (((w.alloc (.cells #[.int .i64 a, .int .i64 b] 29)).alloc (.cells #[.int .i64 p.x, .int .i64 p.y, .int .i64 p.e] 26)).alloc (.cells #[.int .i64 q.x, .int .i64 q.y, .int .i64 q.e] 26)) 26 #[.int .i64 r.x, .int .i64 r.y, .int .i64 r.e]
  rw [show (((w.alloc (.cells #[.int .i64 a, .int .i64 b] 29)).alloc (.cells #[.int .i64 p.x, .int .i64 p.y, .int .i64 p.e] 26)).alloc (.cells #[.int .i64 q.x, .int .i64 q.y, .int .i64 q.e] 26)).heap.size = w.heap.size + 3 from by simp] at hxr
  replace h := Below.step h hA
  replace hxc := hxc.kept hA
  replace hxp := hxp.kept hA
  replace hxq := hxq.kept hA
  clear hA
  obtain ⟨kc0, kc1⟩ := hxc.two
  have lc := hxc.lt
  obtain ⟨kp0, kp1, kp2⟩ := hxp.three
  have lp := hxp.lt
  obtain ⟨kq0, kq1, kq2⟩ := hxq.three
  have lq := hxq.lt
  obtain ⟨kr0, kr1, kr2⟩ := hxr.three
  have lr := hxr.lt
  go_enter Tryd.func26, Tryd.ntmps26
  go_wp2_with fail
  refine (cp.out _).mono ?_
  rintro e w1 ⟨rfl, hb⟩
  replace h := Below.step h hb
  replace hxc := hxc.kept hb
  replace hxp := hxp.kept hb
  replace hxq := hxq.kept hb
  replace hxr := hxr.kept hb
  clear hb kc0 kc1 lc kp0 kp1 kp2 lp kq0 kq1 kq2 lq kr0 kr1 kr2 lr
  obtain ⟨kc0, kc1⟩ := hxc.two
  have lc := hxc.lt
  obtain ⟨kp0, kp1, kp2⟩ := hxp.three
  have lp := hxp.lt
  obtain ⟨kq0, kq1, kq2⟩ := hxq.three
  have lq := hxq.lt
  obtain ⟨kr0, kr1, kr2⟩ := hxr.three
  have lr := hxr.lt
  go_wp2_with fail
  refine (cq.out _).mono ?_
  rintro e w2 ⟨rfl, hb⟩
  replace h := Below.step h hb
  replace hxc := hxc.kept hb
  replace hxp := hxp.kept hb
  replace hxq := hxq.kept hb
  replace hxr := hxr.kept hb
  clear hb kc0 kc1 lc kp0 kp1 kp2 lp kq0 kq1 kq2 lq kr0 kr1 kr2 lr
  obtain ⟨kc0, kc1⟩ := hxc.two
  have lc := hxc.lt
  obtain ⟨kp0, kp1, kp2⟩ := hxp.three
  have lp := hxp.lt
  obtain ⟨kq0, kq1, kq2⟩ := hxq.three
  have lq := hxq.lt
  obtain ⟨kr0, kr1, kr2⟩ := hxr.three
  have lr := hxr.lt
  go_wp2_with fail
  refine (cr.out _).mono ?_
  rintro e w3 ⟨rfl, hb⟩
  replace h := Below.step h hb
  replace hxc := hxc.kept hb
  replace hxp := hxp.kept hb
  replace hxq := hxq.kept hb
  replace hxr := hxr.kept hb
  clear hb kc0 kc1 lc kp0 kp1 kp2 lp kq0 kq1 kq2 lq kr0 kr1 kr2 lr
  obtain ⟨kc0, kc1⟩ := hxc.two
  have lc := hxc.lt
  obtain ⟨kp0, kp1, kp2⟩ := hxp.three
  have lp := hxp.lt
  obtain ⟨kq0, kq1, kq2⟩ := hxq.three
  have lq := hxq.lt
  obtain ⟨kr0, kr1, kr2⟩ := hxr.three
  have lr := hxr.lt
  go_wp2_with fail
  refine (c1.out _).mono ?_
  rintro e w4 ⟨rfl, hb⟩
  replace h := Below.step h hb
  replace hxc := hxc.kept hb
  replace hxp := hxp.kept hb
  replace hxq := hxq.kept hb
  replace hxr := hxr.kept hb
  clear hb kc0 kc1 lc kp0 kp1 kp2 lp kq0 kq1 kq2 lq kr0 kr1 kr2 lr
  obtain ⟨kc0, kc1⟩ := hxc.two
  have lc := hxc.lt
  obtain ⟨kp0, kp1, kp2⟩ := hxp.three
  have lp := hxp.lt
  obtain ⟨kq0, kq1, kq2⟩ := hxq.three
  have lq := hxq.lt
  obtain ⟨kr0, kr1, kr2⟩ := hxr.three
  have lr := hxr.lt
  go_upto_region 6 with fail
  have hA := below_alloc1 w4 (.cells #[.int .i64 s.x, .int .i64 s.y, .int .i64 s.e] 26)
  have hxm := Box.new w4 26 #[.int .i64 s.x, .int .i64 s.y, .int .i64 s.e]
  replace h := Below.step h hA
  replace hxc := hxc.kept hA
  replace hxp := hxp.kept hA
  replace hxq := hxq.kept hA
  replace hxr := hxr.kept hA
  clear hA kc0 kc1 lc kp0 kp1 kp2 lp kq0 kq1 kq2 lq kr0 kr1 kr2 lr
  generalize w4.alloc (.cells #[.int .i64 s.x, .int .i64 s.y, .int .i64 s.e] 26) = w5 at *
  generalize w4.heap.size = gm at hxm ⊢
  obtain ⟨kc0, kc1⟩ := hxc.two
  have lc := hxc.lt
  obtain ⟨kp0, kp1, kp2⟩ := hxp.three
  have lp := hxp.lt
  obtain ⟨kq0, kq1, kq2⟩ := hxq.three
  have lq := hxq.lt
  obtain ⟨kr0, kr1, kr2⟩ := hxr.three
  have lr := hxr.lt
  obtain ⟨km0, km1, km2⟩ := hxm.three
  have lm := hxm.lt
  have KM : ∀ (W : World), Below w5.heap.size w5 W → (W.cell? ⟨w.heap.size, 0, none⟩ = some (.int .i64 a) ∧ W.cell? ⟨w.heap.size, 1, none⟩ = some (.int .i64 b) ∧ W.cell? ⟨(w.heap.size + 1), 0, none⟩ = some (.int .i64 p.x) ∧ W.cell? ⟨(w.heap.size + 1), 1, none⟩ = some (.int .i64 p.y) ∧ W.cell? ⟨(w.heap.size + 1), 2, none⟩ = some (.int .i64 p.e) ∧ W.cell? ⟨(w.heap.size + 2), 0, none⟩ = some (.int .i64 q.x) ∧ W.cell? ⟨(w.heap.size + 2), 1, none⟩ = some (.int .i64 q.y) ∧ W.cell? ⟨(w.heap.size + 2), 2, none⟩ = some (.int .i64 q.e) ∧ W.cell? ⟨(w.heap.size + 3), 0, none⟩ = some (.int .i64 r.x) ∧ W.cell? ⟨(w.heap.size + 3), 1, none⟩ = some (.int .i64 r.y) ∧ W.cell? ⟨(w.heap.size + 3), 2, none⟩ = some (.int .i64 r.e) ∧ W.cell? ⟨gm, 0, none⟩ = some (.int .i64 s.x) ∧ W.cell? ⟨gm, 1, none⟩ = some (.int .i64 s.y) ∧ W.cell? ⟨gm, 2, none⟩ = some (.int .i64 s.e) ∧ Below w5.heap.size w5 W) := fun W hW => ⟨(hxc.kept hW).two.1, (hxc.kept hW).two.2, (hxp.kept hW).three.1, (hxp.kept hW).three.2.1, (hxp.kept hW).three.2.2, (hxq.kept hW).three.1, (hxq.kept hW).three.2.1, (hxq.kept hW).three.2.2, (hxr.kept hW).three.1, (hxr.kept hW).three.2.1, (hxr.kept hW).three.2.2, (hxm.kept hW).three.1, (hxm.kept hW).three.2.1, (hxm.kept hW).three.2.2, hW⟩
  have KC : ∀ (W W' : World), Below W.heap.size W W' → (W.cell? ⟨w.heap.size, 0, none⟩ = some (.int .i64 a) ∧ W.cell? ⟨w.heap.size, 1, none⟩ = some (.int .i64 b) ∧ W.cell? ⟨(w.heap.size + 1), 0, none⟩ = some (.int .i64 p.x) ∧ W.cell? ⟨(w.heap.size + 1), 1, none⟩ = some (.int .i64 p.y) ∧ W.cell? ⟨(w.heap.size + 1), 2, none⟩ = some (.int .i64 p.e) ∧ W.cell? ⟨(w.heap.size + 2), 0, none⟩ = some (.int .i64 q.x) ∧ W.cell? ⟨(w.heap.size + 2), 1, none⟩ = some (.int .i64 q.y) ∧ W.cell? ⟨(w.heap.size + 2), 2, none⟩ = some (.int .i64 q.e) ∧ W.cell? ⟨(w.heap.size + 3), 0, none⟩ = some (.int .i64 r.x) ∧ W.cell? ⟨(w.heap.size + 3), 1, none⟩ = some (.int .i64 r.y) ∧ W.cell? ⟨(w.heap.size + 3), 2, none⟩ = some (.int .i64 r.e) ∧ W.cell? ⟨gm, 0, none⟩ = some (.int .i64 s.x) ∧ W.cell? ⟨gm, 1, none⟩ = some (.int .i64 s.y) ∧ W.cell? ⟨gm, 2, none⟩ = some (.int .i64 s.e) ∧ Below w5.heap.size w5 W) → (W'.cell? ⟨w.heap.size, 0, none⟩ = some (.int .i64 a) ∧ W'.cell? ⟨w.heap.size, 1, none⟩ = some (.int .i64 b) ∧ W'.cell? ⟨(w.heap.size + 1), 0, none⟩ = some (.int .i64 p.x) ∧ W'.cell? ⟨(w.heap.size + 1), 1, none⟩ = some (.int .i64 p.y) ∧ W'.cell? ⟨(w.heap.size + 1), 2, none⟩ = some (.int .i64 p.e) ∧ W'.cell? ⟨(w.heap.size + 2), 0, none⟩ = some (.int .i64 q.x) ∧ W'.cell? ⟨(w.heap.size + 2), 1, none⟩ = some (.int .i64 q.y) ∧ W'.cell? ⟨(w.heap.size + 2), 2, none⟩ = some (.int .i64 q.e) ∧ W'.cell? ⟨(w.heap.size + 3), 0, none⟩ = some (.int .i64 r.x) ∧ W'.cell? ⟨(w.heap.size + 3), 1, none⟩ = some (.int .i64 r.y) ∧ W'.cell? ⟨(w.heap.size + 3), 2, none⟩ = some (.int .i64 r.e) ∧ W'.cell? ⟨gm, 0, none⟩ = some (.int .i64 s.x) ∧ W'.cell? ⟨gm, 1, none⟩ = some (.int .i64 s.y) ∧ W'.cell? ⟨gm, 2, none⟩ = some (.int .i64 s.e) ∧ Below w5.heap.size w5 W') := fun W W' hb ⟨_, _, _, _, _, _, _, _, _, _, _, _, _, _, hW⟩ => KM _ (Below.step hW hb)
  have KA : ∀ (W : World) (o : Obj), (W.cell? ⟨w.heap.size, 0, none⟩ = some (.int .i64 a) ∧ W.cell? ⟨w.heap.size, 1, none⟩ = some (.int .i64 b) ∧ W.cell? ⟨(w.heap.size + 1), 0, none⟩ = some (.int .i64 p.x) ∧ W.cell? ⟨(w.heap.size + 1), 1, none⟩ = some (.int .i64 p.y) ∧ W.cell? ⟨(w.heap.size + 1), 2, none⟩ = some (.int .i64 p.e) ∧ W.cell? ⟨(w.heap.size + 2), 0, none⟩ = some (.int .i64 q.x) ∧ W.cell? ⟨(w.heap.size + 2), 1, none⟩ = some (.int .i64 q.y) ∧ W.cell? ⟨(w.heap.size + 2), 2, none⟩ = some (.int .i64 q.e) ∧ W.cell? ⟨(w.heap.size + 3), 0, none⟩ = some (.int .i64 r.x) ∧ W.cell? ⟨(w.heap.size + 3), 1, none⟩ = some (.int .i64 r.y) ∧ W.cell? ⟨(w.heap.size + 3), 2, none⟩ = some (.int .i64 r.e) ∧ W.cell? ⟨gm, 0, none⟩ = some (.int .i64 s.x) ∧ W.cell? ⟨gm, 1, none⟩ = some (.int .i64 s.y) ∧ W.cell? ⟨gm, 2, none⟩ = some (.int .i64 s.e) ∧ Below w5.heap.size w5 W) → ((W.alloc o).cell? ⟨w.heap.size, 0, none⟩ = some (.int .i64 a) ∧ (W.alloc o).cell? ⟨w.heap.size, 1, none⟩ = some (.int .i64 b) ∧ (W.alloc o).cell? ⟨(w.heap.size + 1), 0, none⟩ = some (.int .i64 p.x) ∧ (W.alloc o).cell? ⟨(w.heap.size + 1), 1, none⟩ = some (.int .i64 p.y) ∧ (W.alloc o).cell? ⟨(w.heap.size + 1), 2, none⟩ = some (.int .i64 p.e) ∧ (W.alloc o).cell? ⟨(w.heap.size + 2), 0, none⟩ = some (.int .i64 q.x) ∧ (W.alloc o).cell? ⟨(w.heap.size + 2), 1, none⟩ = some (.int .i64 q.y) ∧ (W.alloc o).cell? ⟨(w.heap.size + 2), 2, none⟩ = some (.int .i64 q.e) ∧ (W.alloc o).cell? ⟨(w.heap.size + 3), 0, none⟩ = some (.int .i64 r.x) ∧ (W.alloc o).cell? ⟨(w.heap.size + 3), 1, none⟩ = some (.int .i64 r.y) ∧ (W.alloc o).cell? ⟨(w.heap.size + 3), 2, none⟩ = some (.int .i64 r.e) ∧ (W.alloc o).cell? ⟨gm, 0, none⟩ = some (.int .i64 s.x) ∧ (W.alloc o).cell? ⟨gm, 1, none⟩ = some (.int .i64 s.y) ∧ (W.alloc o).cell? ⟨gm, 2, none⟩ = some (.int .i64 s.e) ∧ Below w5.heap.size w5 (W.alloc o)) := fun W o ⟨_, _, _, _, _, _, _, _, _, _, _, _, _, _, hW⟩ => KM _ (Below.step hW (below_alloc1 _ _))
  have KD : ∀ (W : World), (W.cell? ⟨w.heap.size, 0, none⟩ = some (.int .i64 a) ∧ W.cell? ⟨w.heap.size, 1, none⟩ = some (.int .i64 b) ∧ W.cell? ⟨(w.heap.size + 1), 0, none⟩ = some (.int .i64 p.x) ∧ W.cell? ⟨(w.heap.size + 1), 1, none⟩ = some (.int .i64 p.y) ∧ W.cell? ⟨(w.heap.size + 1), 2, none⟩ = some (.int .i64 p.e) ∧ W.cell? ⟨(w.heap.size + 2), 0, none⟩ = some (.int .i64 q.x) ∧ W.cell? ⟨(w.heap.size + 2), 1, none⟩ = some (.int .i64 q.y) ∧ W.cell? ⟨(w.heap.size + 2), 2, none⟩ = some (.int .i64 q.e) ∧ W.cell? ⟨(w.heap.size + 3), 0, none⟩ = some (.int .i64 r.x) ∧ W.cell? ⟨(w.heap.size + 3), 1, none⟩ = some (.int .i64 r.y) ∧ W.cell? ⟨(w.heap.size + 3), 2, none⟩ = some (.int .i64 r.e) ∧ W.cell? ⟨gm, 0, none⟩ = some (.int .i64 s.x) ∧ W.cell? ⟨gm, 1, none⟩ = some (.int .i64 s.y) ∧ W.cell? ⟨gm, 2, none⟩ = some (.int .i64 s.e) ∧ Below w5.heap.size w5 W) → (W.drew.cell? ⟨w.heap.size, 0, none⟩ = some (.int .i64 a) ∧ W.drew.cell? ⟨w.heap.size, 1, none⟩ = some (.int .i64 b) ∧ W.drew.cell? ⟨(w.heap.size + 1), 0, none⟩ = some (.int .i64 p.x) ∧ W.drew.cell? ⟨(w.heap.size + 1), 1, none⟩ = some (.int .i64 p.y) ∧ W.drew.cell? ⟨(w.heap.size + 1), 2, none⟩ = some (.int .i64 p.e) ∧ W.drew.cell? ⟨(w.heap.size + 2), 0, none⟩ = some (.int .i64 q.x) ∧ W.drew.cell? ⟨(w.heap.size + 2), 1, none⟩ = some (.int .i64 q.y) ∧ W.drew.cell? ⟨(w.heap.size + 2), 2, none⟩ = some (.int .i64 q.e) ∧ W.drew.cell? ⟨(w.heap.size + 3), 0, none⟩ = some (.int .i64 r.x) ∧ W.drew.cell? ⟨(w.heap.size + 3), 1, none⟩ = some (.int .i64 r.y) ∧ W.drew.cell? ⟨(w.heap.size + 3), 2, none⟩ = some (.int .i64 r.e) ∧ W.drew.cell? ⟨gm, 0, none⟩ = some (.int .i64 s.x) ∧ W.drew.cell? ⟨gm, 1, none⟩ = some (.int .i64 s.y) ∧ W.drew.cell? ⟨gm, 2, none⟩ = some (.int .i64 s.e) ∧ Below w5.heap.size w5 W.drew) := fun W ⟨_, _, _, _, _, _, _, _, _, _, _, _, _, _, hW⟩ => KM _ (Below.drewN' hW 1)
  have KB : ∀ (W : World), (W.cell? ⟨w.heap.size, 0, none⟩ = some (.int .i64 a) ∧ W.cell? ⟨w.heap.size, 1, none⟩ = some (.int .i64 b) ∧ W.cell? ⟨(w.heap.size + 1), 0, none⟩ = some (.int .i64 p.x) ∧ W.cell? ⟨(w.heap.size + 1), 1, none⟩ = some (.int .i64 p.y) ∧ W.cell? ⟨(w.heap.size + 1), 2, none⟩ = some (.int .i64 p.e) ∧ W.cell? ⟨(w.heap.size + 2), 0, none⟩ = some (.int .i64 q.x) ∧ W.cell? ⟨(w.heap.size + 2), 1, none⟩ = some (.int .i64 q.y) ∧ W.cell? ⟨(w.heap.size + 2), 2, none⟩ = some (.int .i64 q.e) ∧ W.cell? ⟨(w.heap.size + 3), 0, none⟩ = some (.int .i64 r.x) ∧ W.cell? ⟨(w.heap.size + 3), 1, none⟩ = some (.int .i64 r.y) ∧ W.cell? ⟨(w.heap.size + 3), 2, none⟩ = some (.int .i64 r.e) ∧ W.cell? ⟨gm, 0, none⟩ = some (.int .i64 s.x) ∧ W.cell? ⟨gm, 1, none⟩ = some (.int .i64 s.y) ∧ W.cell? ⟨gm, 2, none⟩ = some (.int .i64 s.e) ∧ Below w5.heap.size w5 W) → Below w5.heap.size w5 W := fun W ⟨_, _, _, _, _, _, _, _, _, _, _, _, _, _, hW⟩ => hW
  have KM0 := KM w5.drew ⟨rfl, rfl, rfl, Nat.le_refl _, fun _ _ => rfl⟩
  have KM00 := KM _ (Below.refl _ _)
  replace KC := Lib.hid KC
  replace KA := Lib.hid KA
  replace KD := Lib.hid KD
  replace KB := Lib.hid KB
  clear KM kc0 kc1 lc kp0 kp1 kp2 lp kq0 kq1 kq2 lq kr0 kr1 kr2 lr km0 km1 km2 lm
  go_cut [8, 9] (fun s8 s9 wx => s8 = .bool (s.x == r.x && s.y == -r.y && s.e == r.e) ∧ s9 = .bool true ∧ Below w5.heap.size w5 wx)
  case first =>
    go_region_held3 (fun w' => w'.cell? ⟨w.heap.size, 0, none⟩ = some (.int .i64 a) ∧ w'.cell? ⟨w.heap.size, 1, none⟩ = some (.int .i64 b) ∧ w'.cell? ⟨(w.heap.size + 1), 0, none⟩ = some (.int .i64 p.x) ∧ w'.cell? ⟨(w.heap.size + 1), 1, none⟩ = some (.int .i64 p.y) ∧ w'.cell? ⟨(w.heap.size + 1), 2, none⟩ = some (.int .i64 p.e) ∧ w'.cell? ⟨(w.heap.size + 2), 0, none⟩ = some (.int .i64 q.x) ∧ w'.cell? ⟨(w.heap.size + 2), 1, none⟩ = some (.int .i64 q.y) ∧ w'.cell? ⟨(w.heap.size + 2), 2, none⟩ = some (.int .i64 q.e) ∧ w'.cell? ⟨(w.heap.size + 3), 0, none⟩ = some (.int .i64 r.x) ∧ w'.cell? ⟨(w.heap.size + 3), 1, none⟩ = some (.int .i64 r.y) ∧ w'.cell? ⟨(w.heap.size + 3), 2, none⟩ = some (.int .i64 r.e) ∧ w'.cell? ⟨gm, 0, none⟩ = some (.int .i64 s.x) ∧ w'.cell? ⟨gm, 1, none⟩ = some (.int .i64 s.y) ∧ w'.cell? ⟨gm, 2, none⟩ = some (.int .i64 s.e) ∧ Below w5.heap.size w5 w') ((first | (with_reducible assumption) | ((with_reducible refine KD.out _ ?_); (with_reducible assumption)) | ((with_reducible refine KA.out _ _ ?_); (first | (with_reducible assumption) | ((with_reducible refine KD.out _ ?_); (with_reducible assumption)))) | ((with_reducible refine KC.out _ _ ?_ ?_); (with_reducible assumption); (with_reducible assumption))))
      (first
        | (go_at_call 40; (with_reducible refine (co.out _).mono ?_); rintro e wC0 ⟨rfl, hbC⟩; have hS0 : wC0.cell? ⟨w.heap.size, 0, none⟩ = some (.int .i64 a) ∧ wC0.cell? ⟨w.heap.size, 1, none⟩ = some (.int .i64 b) ∧ wC0.cell? ⟨(w.heap.size + 1), 0, none⟩ = some (.int .i64 p.x) ∧ wC0.cell? ⟨(w.heap.size + 1), 1, none⟩ = some (.int .i64 p.y) ∧ wC0.cell? ⟨(w.heap.size + 1), 2, none⟩ = some (.int .i64 p.e) ∧ wC0.cell? ⟨(w.heap.size + 2), 0, none⟩ = some (.int .i64 q.x) ∧ wC0.cell? ⟨(w.heap.size + 2), 1, none⟩ = some (.int .i64 q.y) ∧ wC0.cell? ⟨(w.heap.size + 2), 2, none⟩ = some (.int .i64 q.e) ∧ wC0.cell? ⟨(w.heap.size + 3), 0, none⟩ = some (.int .i64 r.x) ∧ wC0.cell? ⟨(w.heap.size + 3), 1, none⟩ = some (.int .i64 r.y) ∧ wC0.cell? ⟨(w.heap.size + 3), 2, none⟩ = some (.int .i64 r.e) ∧ wC0.cell? ⟨gm, 0, none⟩ = some (.int .i64 s.x) ∧ wC0.cell? ⟨gm, 1, none⟩ = some (.int .i64 s.y) ∧ wC0.cell? ⟨gm, 2, none⟩ = some (.int .i64 s.e) ∧ Below w5.heap.size w5 wC0 := KC.out _ _ hbC (by assumption)))
    all_goals (go_wp2_with fail; go_meet)
    all_goals refine ⟨rfl, rfl, KB.out _ ?_⟩
    all_goals (first | (with_reducible assumption) | ((with_reducible refine KD.out _ ?_); (with_reducible assumption)))
  case rest =>
  obtain ⟨rfl, rfl, hb⟩ := hcut
  clear KM0 KM00 KC KA KD KB
  replace h := Below.step h hb
  replace hxc := hxc.kept hb
  replace hxp := hxp.kept hb
  replace hxq := hxq.kept hb
  replace hxr := hxr.kept hb
  replace hxm := hxm.kept hb
  clear hb
  obtain ⟨kc0, kc1⟩ := hxc.two
  have lc := hxc.lt
  obtain ⟨kp0, kp1, kp2⟩ := hxp.three
  have lp := hxp.lt
  obtain ⟨kq0, kq1, kq2⟩ := hxq.three
  have lq := hxq.lt
  obtain ⟨kr0, kr1, kr2⟩ := hxr.three
  have lr := hxr.lt
  obtain ⟨km0, km1, km2⟩ := hxm.three
  have lm := hxm.lt
  go_wp2_with fail
  go_ret2
  exact ⟨rfl, h⟩


set_option maxHeartbeats 1000000 in
set_option maxRecDepth 100000 in
theorem colI_no (a b : Int) (p q r : P3) (w : World) (hL : Lim w) (x y u : Int) (c1 : ∀ W : World, Lim W → Calls Tryd.prog 13 #[.agg #[.int .i64 a, .int .i64 b], .agg #[.int .i64 p.x, .int .i64 p.y, .int .i64 p.e], .agg #[.int .i64 q.x, .int .i64 q.y, .int .i64 q.e]] W (GivesPB W x y u false)) : Calls Tryd.prog 27 #[.agg #[.int .i64 a, .int .i64 b], .agg #[.int .i64 p.x, .int .i64 p.y, .int .i64 p.e], .agg #[.int .i64 q.x, .int .i64 q.y, .int .i64 q.e], .agg #[.int .i64 r.x, .int .i64 r.y, .int .i64 r.e]] w (GivesBB w false false) := by
  replace c1 := Lib.hid c1
  have h := Below.refl w.heap.size w
  have hA := below_alloc1 w (.cells #[.int .i64 a, .int .i64 b] 29)
  have hxc := Box.new w 29 #[.int .i64 a, .int .i64 b]
  replace h := Below.step h hA
  clear hA
  have hA := below_alloc1 (w.alloc (.cells #[.int .i64 a, .int .i64 b] 29)) (.cells #[.int .i64 p.x, .int .i64 p.y, .int .i64 p.e] 26)
  have hxp := Box.new (w.alloc (.cells #[.int .i64 a, .int .i64 b] 29)) 26 #[.int .i64 p.x, .int .i64 p.y, .int .i64 p.e]
  rw [show (w.alloc (.cells #[.int .i64 a, .int .i64 b] 29)).heap.size = w.heap.size + 1 from by simp] at hxp
  replace h := Below.step h hA
  replace hxc := hxc.kept hA
  clear hA
  have hA := below_alloc1 ((w.alloc (.cells #[.int .i64 a, .int .i64 b] 29)).alloc (.cells #[.int .i64 p.x, .int .i64 p.y, .int .i64 p.e] 26)) (.cells #[.int .i64 q.x, .int .i64 q.y, .int .i64 q.e] 26)
  have hxq := Box.new ((w.alloc (.cells #[.int .i64 a, .int .i64 b] 29)).alloc (.cells #[.int .i64 p.x, .int .i64 p.y, .int .i64 p.e] 26)) 26 #[.int .i64 q.x, .int .i64 q.y, .int .i64 q.e]
  rw [show ((w.alloc (.cells #[.int .i64 a, .int .i64 b] 29)).alloc (.cells #[.int .i64 p.x, .int .i64 p.y, .int .i64 p.e] 26)).heap.size = w.heap.size + 2 from by simp] at hxq
  replace h := Below.step h hA
  replace hxc := hxc.kept hA
  replace hxp := hxp.kept hA
  clear hA
  have hA := below_alloc1 (((w.alloc (.cells #[.int .i64 a, .int .i64 b] 29)).alloc (.cells #[.int .i64 p.x, .int .i64 p.y, .int .i64 p.e] 26)).alloc (.cells #[.int .i64 q.x, .int .i64 q.y, .int .i64 q.e] 26)) (.cells #[.int .i64 r.x, .int .i64 r.y, .int .i64 r.e] 26)
  have hxr := Box.new (((w.alloc (.cells #[.int .i64 a, .int .i64 b] 29)).alloc (.cells #[.int .i64 p.x, .int .i64 p.y, .int .i64 p.e] 26)).alloc (.cells #[.int .i64 q.x, .int .i64 q.y, .int .i64 q.e] 26)) 26 #[.int .i64 r.x, .int .i64 r.y, .int .i64 r.e]
  rw [show (((w.alloc (.cells #[.int .i64 a, .int .i64 b] 29)).alloc (.cells #[.int .i64 p.x, .int .i64 p.y, .int .i64 p.e] 26)).alloc (.cells #[.int .i64 q.x, .int .i64 q.y, .int .i64 q.e] 26)).heap.size = w.heap.size + 3 from by simp] at hxr
  replace h := Below.step h hA
  replace hxc := hxc.kept hA
  replace hxp := hxp.kept hA
  replace hxq := hxq.kept hA
  clear hA
  obtain ⟨kc0, kc1⟩ := hxc.two
  have lc := hxc.lt
  obtain ⟨kp0, kp1, kp2⟩ := hxp.three
  have lp := hxp.lt
  obtain ⟨kq0, kq1, kq2⟩ := hxq.three
  have lq := hxq.lt
  obtain ⟨kr0, kr1, kr2⟩ := hxr.three
  have lr := hxr.lt
  replace hL := hL.kept h
  go_enter Tryd.func27, Tryd.ntmps27
  go_wp2_with fail
  refine (c1.out _ hL).mono ?_
  rintro e w1 ⟨rfl, hb⟩
  replace h := Below.step h hb
  replace hxc := hxc.kept hb
  replace hxp := hxp.kept hb
  replace hxq := hxq.kept hb
  replace hxr := hxr.kept hb
  replace hL := hL.kept hb
  clear hb kc0 kc1 lc kp0 kp1 kp2 lp kq0 kq1 kq2 lq kr0 kr1 kr2 lr
  obtain ⟨kc0, kc1⟩ := hxc.two
  have lc := hxc.lt
  obtain ⟨kp0, kp1, kp2⟩ := hxp.three
  have lp := hxp.lt
  obtain ⟨kq0, kq1, kq2⟩ := hxq.three
  have lq := hxq.lt
  obtain ⟨kr0, kr1, kr2⟩ := hxr.three
  have lr := hxr.lt
  go_wp2_with fail
  go_ret2
  exact ⟨rfl, Below.step h (below_alloc1 _ _)⟩


set_option maxHeartbeats 1000000 in
set_option maxRecDepth 100000 in
theorem colI_off (a b : Int) (p q r s : P3) (w : World) (hL : Lim w) (g2 : ¬ PtG a b r) (c1 : ∀ W : World, Lim W → Calls Tryd.prog 13 #[.agg #[.int .i64 a, .int .i64 b], .agg #[.int .i64 p.x, .int .i64 p.y, .int .i64 p.e], .agg #[.int .i64 q.x, .int .i64 q.y, .int .i64 q.e]] W (GivesPB W s.x s.y s.e true)) : Calls Tryd.prog 27 #[.agg #[.int .i64 a, .int .i64 b], .agg #[.int .i64 p.x, .int .i64 p.y, .int .i64 p.e], .agg #[.int .i64 q.x, .int .i64 q.y, .int .i64 q.e], .agg #[.int .i64 r.x, .int .i64 r.y, .int .i64 r.e]] w (GivesBB w false false) := by
  replace c1 := Lib.hid c1
  have h := Below.refl w.heap.size w
  have hA := below_alloc1 w (.cells #[.int .i64 a, .int .i64 b] 29)
  have hxc := Box.new w 29 #[.int .i64 a, .int .i64 b]
  replace h := Below.step h hA
  clear hA
  have hA := below_alloc1 (w.alloc (.cells #[.int .i64 a, .int .i64 b] 29)) (.cells #[.int .i64 p.x, .int .i64 p.y, .int .i64 p.e] 26)
  have hxp := Box.new (w.alloc (.cells #[.int .i64 a, .int .i64 b] 29)) 26 #[.int .i64 p.x, .int .i64 p.y, .int .i64 p.e]
  rw [show (w.alloc (.cells #[.int .i64 a, .int .i64 b] 29)).heap.size = w.heap.size + 1 from by simp] at hxp
  replace h := Below.step h hA
  replace hxc := hxc.kept hA
  clear hA
  have hA := below_alloc1 ((w.alloc (.cells #[.int .i64 a, .int .i64 b] 29)).alloc (.cells #[.int .i64 p.x, .int .i64 p.y, .int .i64 p.e] 26)) (.cells #[.int .i64 q.x, .int .i64 q.y, .int .i64 q.e] 26)
  have hxq := Box.new ((w.alloc (.cells #[.int .i64 a, .int .i64 b] 29)).alloc (.cells #[.int .i64 p.x, .int .i64 p.y, .int .i64 p.e] 26)) 26 #[.int .i64 q.x, .int .i64 q.y, .int .i64 q.e]
  rw [show ((w.alloc (.cells #[.int .i64 a, .int .i64 b] 29)).alloc (.cells #[.int .i64 p.x, .int .i64 p.y, .int .i64 p.e] 26)).heap.size = w.heap.size + 2 from by simp] at hxq
  replace h := Below.step h hA
  replace hxc := hxc.kept hA
  replace hxp := hxp.kept hA
  clear hA
  have hA := below_alloc1 (((w.alloc (.cells #[.int .i64 a, .int .i64 b] 29)).alloc (.cells #[.int .i64 p.x, .int .i64 p.y, .int .i64 p.e] 26)).alloc (.cells #[.int .i64 q.x, .int .i64 q.y, .int .i64 q.e] 26)) (.cells #[.int .i64 r.x, .int .i64 r.y, .int .i64 r.e] 26)
  have hxr := Box.new (((w.alloc (.cells #[.int .i64 a, .int .i64 b] 29)).alloc (.cells #[.int .i64 p.x, .int .i64 p.y, .int .i64 p.e] 26)).alloc (.cells #[.int .i64 q.x, .int .i64 q.y, .int .i64 q.e] 26)) 26 #[.int .i64 r.x, .int .i64 r.y, .int .i64 r.e]
  rw [show (((w.alloc (.cells #[.int .i64 a, .int .i64 b] 29)).alloc (.cells #[.int .i64 p.x, .int .i64 p.y, .int .i64 p.e] 26)).alloc (.cells #[.int .i64 q.x, .int .i64 q.y, .int .i64 q.e] 26)).heap.size = w.heap.size + 3 from by simp] at hxr
  replace h := Below.step h hA
  replace hxc := hxc.kept hA
  replace hxp := hxp.kept hA
  replace hxq := hxq.kept hA
  clear hA
  obtain ⟨kc0, kc1⟩ := hxc.two
  have lc := hxc.lt
  obtain ⟨kp0, kp1, kp2⟩ := hxp.three
  have lp := hxp.lt
  obtain ⟨kq0, kq1, kq2⟩ := hxq.three
  have lq := hxq.lt
  obtain ⟨kr0, kr1, kr2⟩ := hxr.three
  have lr := hxr.lt
  replace hL := hL.kept h
  go_enter Tryd.func27, Tryd.ntmps27
  go_wp2_with fail
  refine (c1.out _ hL).mono ?_
  rintro e w1 ⟨rfl, hb⟩
  replace h := Below.step h hb
  replace hxc := hxc.kept hb
  replace hxp := hxp.kept hb
  replace hxq := hxq.kept hb
  replace hxr := hxr.kept hb
  replace hL := hL.kept hb
  clear hb kc0 kc1 lc kp0 kp1 kp2 lp kq0 kq1 kq2 lq kr0 kr1 kr2 lr
  obtain ⟨kc0, kc1⟩ := hxc.two
  have lc := hxc.lt
  obtain ⟨kp0, kp1, kp2⟩ := hxp.three
  have lp := hxp.lt
  obtain ⟨kq0, kq1, kq2⟩ := hxq.three
  have lq := hxq.lt
  obtain ⟨kr0, kr1, kr2⟩ := hxr.three
  have lr := hxr.lt
  go_wp2_with fail
  have hA := below_alloc1 w1 (.cells #[.int .i64 s.x, .int .i64 s.y, .int .i64 s.e] 26)
  have hxm := Box.new w1 26 #[.int .i64 s.x, .int .i64 s.y, .int .i64 s.e]
  replace h := Below.step h hA
  replace hxc := hxc.kept hA
  replace hxp := hxp.kept hA
  replace hxq := hxq.kept hA
  replace hxr := hxr.kept hA
  replace hL := hL.kept hA
  clear hA kc0 kc1 lc kp0 kp1 kp2 lp kq0 kq1 kq2 lq kr0 kr1 kr2 lr
  generalize w1.alloc (.cells #[.int .i64 s.x, .int .i64 s.y, .int .i64 s.e] 26) = w2 at *
  generalize w1.heap.size = gm at hxm ⊢
  obtain ⟨kc0, kc1⟩ := hxc.two
  have lc := hxc.lt
  obtain ⟨kp0, kp1, kp2⟩ := hxp.three
  have lp := hxp.lt
  obtain ⟨kq0, kq1, kq2⟩ := hxq.three
  have lq := hxq.lt
  obtain ⟨kr0, kr1, kr2⟩ := hxr.three
  have lr := hxr.lt
  obtain ⟨km0, km1, km2⟩ := hxm.three
  have lm := hxm.lt
  refine (isPtI_off a b r _ g2).mono ?_
  rintro e w3 ⟨rfl, hb⟩
  replace h := Below.step h hb
  replace hxc := hxc.kept hb
  replace hxp := hxp.kept hb
  replace hxq := hxq.kept hb
  replace hxr := hxr.kept hb
  replace hxm := hxm.kept hb
  replace hL := hL.kept hb
  clear hb kc0 kc1 lc kp0 kp1 kp2 lp kq0 kq1 kq2 lq kr0 kr1 kr2 lr km0 km1 km2 lm
  obtain ⟨kc0, kc1⟩ := hxc.two
  have lc := hxc.lt
  obtain ⟨kp0, kp1, kp2⟩ := hxp.three
  have lp := hxp.lt
  obtain ⟨kq0, kq1, kq2⟩ := hxq.three
  have lq := hxq.lt
  obtain ⟨kr0, kr1, kr2⟩ := hxr.three
  have lr := hxr.lt
  obtain ⟨km0, km1, km2⟩ := hxm.three
  have lm := hxm.lt
  go_wp2_with fail
  go_ret2
  exact ⟨rfl, h⟩


set_option maxHeartbeats 1000000 in
set_option maxRecDepth 100000 in
theorem colI_yes (a b : Int) (p q r s : P3) (w : World) (hL : Lim w) (g2 : PtG a b r) (c1 : ∀ W : World, Lim W → Calls Tryd.prog 13 #[.agg #[.int .i64 a, .int .i64 b], .agg #[.int .i64 p.x, .int .i64 p.y, .int .i64 p.e], .agg #[.int .i64 q.x, .int .i64 q.y, .int .i64 q.e]] W (GivesPB W s.x s.y s.e true)) : Calls Tryd.prog 27 #[.agg #[.int .i64 a, .int .i64 b], .agg #[.int .i64 p.x, .int .i64 p.y, .int .i64 p.e], .agg #[.int .i64 q.x, .int .i64 q.y, .int .i64 q.e], .agg #[.int .i64 r.x, .int .i64 r.y, .int .i64 r.e]] w (GivesBB w (s.x == r.x && s.y == -r.y && s.e == r.e) true) := by
  replace c1 := Lib.hid c1
  have cr := fun W => isPtI_on a b r W g2
  replace cr := Lib.hid cr
  have yb := g2.2.bd.2.2
  have co := fun W => oppI_any r W (by omega)
  replace co := Lib.hid co
  clear g2
  have h := Below.refl w.heap.size w
  have hA := below_alloc1 w (.cells #[.int .i64 a, .int .i64 b] 29)
  have hxc := Box.new w 29 #[.int .i64 a, .int .i64 b]
  replace h := Below.step h hA
  clear hA
  have hA := below_alloc1 (w.alloc (.cells #[.int .i64 a, .int .i64 b] 29)) (.cells #[.int .i64 p.x, .int .i64 p.y, .int .i64 p.e] 26)
  have hxp := Box.new (w.alloc (.cells #[.int .i64 a, .int .i64 b] 29)) 26 #[.int .i64 p.x, .int .i64 p.y, .int .i64 p.e]
  rw [show (w.alloc (.cells #[.int .i64 a, .int .i64 b] 29)).heap.size = w.heap.size + 1 from by simp] at hxp
  replace h := Below.step h hA
  replace hxc := hxc.kept hA
  clear hA
  have hA := below_alloc1 ((w.alloc (.cells #[.int .i64 a, .int .i64 b] 29)).alloc (.cells #[.int .i64 p.x, .int .i64 p.y, .int .i64 p.e] 26)) (.cells #[.int .i64 q.x, .int .i64 q.y, .int .i64 q.e] 26)
  have hxq := Box.new ((w.alloc (.cells #[.int .i64 a, .int .i64 b] 29)).alloc (.cells #[.int .i64 p.x, .int .i64 p.y, .int .i64 p.e] 26)) 26 #[.int .i64 q.x, .int .i64 q.y, .int .i64 q.e]
  rw [show ((w.alloc (.cells #[.int .i64 a, .int .i64 b] 29)).alloc (.cells #[.int .i64 p.x, .int .i64 p.y, .int .i64 p.e] 26)).heap.size = w.heap.size + 2 from by simp] at hxq
  replace h := Below.step h hA
  replace hxc := hxc.kept hA
  replace hxp := hxp.kept hA
  clear hA
  have hA := below_alloc1 (((w.alloc (.cells #[.int .i64 a, .int .i64 b] 29)).alloc (.cells #[.int .i64 p.x, .int .i64 p.y, .int .i64 p.e] 26)).alloc (.cells #[.int .i64 q.x, .int .i64 q.y, .int .i64 q.e] 26)) (.cells #[.int .i64 r.x, .int .i64 r.y, .int .i64 r.e] 26)
  have hxr := Box.new (((w.alloc (.cells #[.int .i64 a, .int .i64 b] 29)).alloc (.cells #[.int .i64 p.x, .int .i64 p.y, .int .i64 p.e] 26)).alloc (.cells #[.int .i64 q.x, .int .i64 q.y, .int .i64 q.e] 26)) 26 #[.int .i64 r.x, .int .i64 r.y, .int .i64 r.e]
  rw [show (((w.alloc (.cells #[.int .i64 a, .int .i64 b] 29)).alloc (.cells #[.int .i64 p.x, .int .i64 p.y, .int .i64 p.e] 26)).alloc (.cells #[.int .i64 q.x, .int .i64 q.y, .int .i64 q.e] 26)).heap.size = w.heap.size + 3 from by simp] at hxr
  replace h := Below.step h hA
  replace hxc := hxc.kept hA
  replace hxp := hxp.kept hA
  replace hxq := hxq.kept hA
  clear hA
  obtain ⟨kc0, kc1⟩ := hxc.two
  have lc := hxc.lt
  obtain ⟨kp0, kp1, kp2⟩ := hxp.three
  have lp := hxp.lt
  obtain ⟨kq0, kq1, kq2⟩ := hxq.three
  have lq := hxq.lt
  obtain ⟨kr0, kr1, kr2⟩ := hxr.three
  have lr := hxr.lt
  replace hL := hL.kept h
  go_enter Tryd.func27, Tryd.ntmps27
  go_wp2_with fail
  refine (c1.out _ hL).mono ?_
  rintro e w1 ⟨rfl, hb⟩
  replace h := Below.step h hb
  replace hxc := hxc.kept hb
  replace hxp := hxp.kept hb
  replace hxq := hxq.kept hb
  replace hxr := hxr.kept hb
  replace hL := hL.kept hb
  clear hb kc0 kc1 lc kp0 kp1 kp2 lp kq0 kq1 kq2 lq kr0 kr1 kr2 lr
  obtain ⟨kc0, kc1⟩ := hxc.two
  have lc := hxc.lt
  obtain ⟨kp0, kp1, kp2⟩ := hxp.three
  have lp := hxp.lt
  obtain ⟨kq0, kq1, kq2⟩ := hxq.three
  have lq := hxq.lt
  obtain ⟨kr0, kr1, kr2⟩ := hxr.three
  have lr := hxr.lt
  go_wp2_with fail
  have hA := below_alloc1 w1 (.cells #[.int .i64 s.x, .int .i64 s.y, .int .i64 s.e] 26)
  have hxm := Box.new w1 26 #[.int .i64 s.x, .int .i64 s.y, .int .i64 s.e]
  replace h := Below.step h hA
  replace hxc := hxc.kept hA
  replace hxp := hxp.kept hA
  replace hxq := hxq.kept hA
  replace hxr := hxr.kept hA
  replace hL := hL.kept hA
  clear hA kc0 kc1 lc kp0 kp1 kp2 lp kq0 kq1 kq2 lq kr0 kr1 kr2 lr
  generalize w1.alloc (.cells #[.int .i64 s.x, .int .i64 s.y, .int .i64 s.e] 26) = w2 at *
  generalize w1.heap.size = gm at hxm ⊢
  obtain ⟨kc0, kc1⟩ := hxc.two
  have lc := hxc.lt
  obtain ⟨kp0, kp1, kp2⟩ := hxp.three
  have lp := hxp.lt
  obtain ⟨kq0, kq1, kq2⟩ := hxq.three
  have lq := hxq.lt
  obtain ⟨kr0, kr1, kr2⟩ := hxr.three
  have lr := hxr.lt
  obtain ⟨km0, km1, km2⟩ := hxm.three
  have lm := hxm.lt
  refine (cr.out _).mono ?_
  rintro e w3 ⟨rfl, hb⟩
  replace h := Below.step h hb
  replace hxc := hxc.kept hb
  replace hxp := hxp.kept hb
  replace hxq := hxq.kept hb
  replace hxr := hxr.kept hb
  replace hxm := hxm.kept hb
  replace hL := hL.kept hb
  clear hb kc0 kc1 lc kp0 kp1 kp2 lp kq0 kq1 kq2 lq kr0 kr1 kr2 lr km0 km1 km2 lm
  obtain ⟨kc0, kc1⟩ := hxc.two
  have lc := hxc.lt
  obtain ⟨kp0, kp1, kp2⟩ := hxp.three
  have lp := hxp.lt
  obtain ⟨kq0, kq1, kq2⟩ := hxq.three
  have lq := hxq.lt
  obtain ⟨kr0, kr1, kr2⟩ := hxr.three
  have lr := hxr.lt
  obtain ⟨km0, km1, km2⟩ := hxm.three
  have lm := hxm.lt
  clear hL
  go_upto_region 4 with fail
  have KM : ∀ (W : World), Below w3.heap.size w3 W → (W.cell? ⟨w.heap.size, 0, none⟩ = some (.int .i64 a) ∧ W.cell? ⟨w.heap.size, 1, none⟩ = some (.int .i64 b) ∧ W.cell? ⟨(w.heap.size + 1), 0, none⟩ = some (.int .i64 p.x) ∧ W.cell? ⟨(w.heap.size + 1), 1, none⟩ = some (.int .i64 p.y) ∧ W.cell? ⟨(w.heap.size + 1), 2, none⟩ = some (.int .i64 p.e) ∧ W.cell? ⟨(w.heap.size + 2), 0, none⟩ = some (.int .i64 q.x) ∧ W.cell? ⟨(w.heap.size + 2), 1, none⟩ = some (.int .i64 q.y) ∧ W.cell? ⟨(w.heap.size + 2), 2, none⟩ = some (.int .i64 q.e) ∧ W.cell? ⟨(w.heap.size + 3), 0, none⟩ = some (.int .i64 r.x) ∧ W.cell? ⟨(w.heap.size + 3), 1, none⟩ = some (.int .i64 r.y) ∧ W.cell? ⟨(w.heap.size + 3), 2, none⟩ = some (.int .i64 r.e) ∧ W.cell? ⟨gm, 0, none⟩ = some (.int .i64 s.x) ∧ W.cell? ⟨gm, 1, none⟩ = some (.int .i64 s.y) ∧ W.cell? ⟨gm, 2, none⟩ = some (.int .i64 s.e) ∧ Below w3.heap.size w3 W) := fun W hW => ⟨(hxc.kept hW).two.1, (hxc.kept hW).two.2, (hxp.kept hW).three.1, (hxp.kept hW).three.2.1, (hxp.kept hW).three.2.2, (hxq.kept hW).three.1, (hxq.kept hW).three.2.1, (hxq.kept hW).three.2.2, (hxr.kept hW).three.1, (hxr.kept hW).three.2.1, (hxr.kept hW).three.2.2, (hxm.kept hW).three.1, (hxm.kept hW).three.2.1, (hxm.kept hW).three.2.2, hW⟩
  have KC : ∀ (W W' : World), Below W.heap.size W W' → (W.cell? ⟨w.heap.size, 0, none⟩ = some (.int .i64 a) ∧ W.cell? ⟨w.heap.size, 1, none⟩ = some (.int .i64 b) ∧ W.cell? ⟨(w.heap.size + 1), 0, none⟩ = some (.int .i64 p.x) ∧ W.cell? ⟨(w.heap.size + 1), 1, none⟩ = some (.int .i64 p.y) ∧ W.cell? ⟨(w.heap.size + 1), 2, none⟩ = some (.int .i64 p.e) ∧ W.cell? ⟨(w.heap.size + 2), 0, none⟩ = some (.int .i64 q.x) ∧ W.cell? ⟨(w.heap.size + 2), 1, none⟩ = some (.int .i64 q.y) ∧ W.cell? ⟨(w.heap.size + 2), 2, none⟩ = some (.int .i64 q.e) ∧ W.cell? ⟨(w.heap.size + 3), 0, none⟩ = some (.int .i64 r.x) ∧ W.cell? ⟨(w.heap.size + 3), 1, none⟩ = some (.int .i64 r.y) ∧ W.cell? ⟨(w.heap.size + 3), 2, none⟩ = some (.int .i64 r.e) ∧ W.cell? ⟨gm, 0, none⟩ = some (.int .i64 s.x) ∧ W.cell? ⟨gm, 1, none⟩ = some (.int .i64 s.y) ∧ W.cell? ⟨gm, 2, none⟩ = some (.int .i64 s.e) ∧ Below w3.heap.size w3 W) → (W'.cell? ⟨w.heap.size, 0, none⟩ = some (.int .i64 a) ∧ W'.cell? ⟨w.heap.size, 1, none⟩ = some (.int .i64 b) ∧ W'.cell? ⟨(w.heap.size + 1), 0, none⟩ = some (.int .i64 p.x) ∧ W'.cell? ⟨(w.heap.size + 1), 1, none⟩ = some (.int .i64 p.y) ∧ W'.cell? ⟨(w.heap.size + 1), 2, none⟩ = some (.int .i64 p.e) ∧ W'.cell? ⟨(w.heap.size + 2), 0, none⟩ = some (.int .i64 q.x) ∧ W'.cell? ⟨(w.heap.size + 2), 1, none⟩ = some (.int .i64 q.y) ∧ W'.cell? ⟨(w.heap.size + 2), 2, none⟩ = some (.int .i64 q.e) ∧ W'.cell? ⟨(w.heap.size + 3), 0, none⟩ = some (.int .i64 r.x) ∧ W'.cell? ⟨(w.heap.size + 3), 1, none⟩ = some (.int .i64 r.y) ∧ W'.cell? ⟨(w.heap.size + 3), 2, none⟩ = some (.int .i64 r.e) ∧ W'.cell? ⟨gm, 0, none⟩ = some (.int .i64 s.x) ∧ W'.cell? ⟨gm, 1, none⟩ = some (.int .i64 s.y) ∧ W'.cell? ⟨gm, 2, none⟩ = some (.int .i64 s.e) ∧ Below w3.heap.size w3 W') := fun W W' hb ⟨_, _, _, _, _, _, _, _, _, _, _, _, _, _, hW⟩ => KM _ (Below.step hW hb)
  have KA : ∀ (W : World) (o : Obj), (W.cell? ⟨w.heap.size, 0, none⟩ = some (.int .i64 a) ∧ W.cell? ⟨w.heap.size, 1, none⟩ = some (.int .i64 b) ∧ W.cell? ⟨(w.heap.size + 1), 0, none⟩ = some (.int .i64 p.x) ∧ W.cell? ⟨(w.heap.size + 1), 1, none⟩ = some (.int .i64 p.y) ∧ W.cell? ⟨(w.heap.size + 1), 2, none⟩ = some (.int .i64 p.e) ∧ W.cell? ⟨(w.heap.size + 2), 0, none⟩ = some (.int .i64 q.x) ∧ W.cell? ⟨(w.heap.size + 2), 1, none⟩ = some (.int .i64 q.y) ∧ W.cell? ⟨(w.heap.size + 2), 2, none⟩ = some (.int .i64 q.e) ∧ W.cell? ⟨(w.heap.size + 3), 0, none⟩ = some (.int .i64 r.x) ∧ W.cell? ⟨(w.heap.size + 3), 1, none⟩ = some (.int .i64 r.y) ∧ W.cell? ⟨(w.heap.size + 3), 2, none⟩ = some (.int .i64 r.e) ∧ W.cell? ⟨gm, 0, none⟩ = some (.int .i64 s.x) ∧ W.cell? ⟨gm, 1, none⟩ = some (.int .i64 s.y) ∧ W.cell? ⟨gm, 2, none⟩ = some (.int .i64 s.e) ∧ Below w3.heap.size w3 W) → ((W.alloc o).cell? ⟨w.heap.size, 0, none⟩ = some (.int .i64 a) ∧ (W.alloc o).cell? ⟨w.heap.size, 1, none⟩ = some (.int .i64 b) ∧ (W.alloc o).cell? ⟨(w.heap.size + 1), 0, none⟩ = some (.int .i64 p.x) ∧ (W.alloc o).cell? ⟨(w.heap.size + 1), 1, none⟩ = some (.int .i64 p.y) ∧ (W.alloc o).cell? ⟨(w.heap.size + 1), 2, none⟩ = some (.int .i64 p.e) ∧ (W.alloc o).cell? ⟨(w.heap.size + 2), 0, none⟩ = some (.int .i64 q.x) ∧ (W.alloc o).cell? ⟨(w.heap.size + 2), 1, none⟩ = some (.int .i64 q.y) ∧ (W.alloc o).cell? ⟨(w.heap.size + 2), 2, none⟩ = some (.int .i64 q.e) ∧ (W.alloc o).cell? ⟨(w.heap.size + 3), 0, none⟩ = some (.int .i64 r.x) ∧ (W.alloc o).cell? ⟨(w.heap.size + 3), 1, none⟩ = some (.int .i64 r.y) ∧ (W.alloc o).cell? ⟨(w.heap.size + 3), 2, none⟩ = some (.int .i64 r.e) ∧ (W.alloc o).cell? ⟨gm, 0, none⟩ = some (.int .i64 s.x) ∧ (W.alloc o).cell? ⟨gm, 1, none⟩ = some (.int .i64 s.y) ∧ (W.alloc o).cell? ⟨gm, 2, none⟩ = some (.int .i64 s.e) ∧ Below w3.heap.size w3 (W.alloc o)) := fun W o ⟨_, _, _, _, _, _, _, _, _, _, _, _, _, _, hW⟩ => KM _ (Below.step hW (below_alloc1 _ _))
  have KD : ∀ (W : World), (W.cell? ⟨w.heap.size, 0, none⟩ = some (.int .i64 a) ∧ W.cell? ⟨w.heap.size, 1, none⟩ = some (.int .i64 b) ∧ W.cell? ⟨(w.heap.size + 1), 0, none⟩ = some (.int .i64 p.x) ∧ W.cell? ⟨(w.heap.size + 1), 1, none⟩ = some (.int .i64 p.y) ∧ W.cell? ⟨(w.heap.size + 1), 2, none⟩ = some (.int .i64 p.e) ∧ W.cell? ⟨(w.heap.size + 2), 0, none⟩ = some (.int .i64 q.x) ∧ W.cell? ⟨(w.heap.size + 2), 1, none⟩ = some (.int .i64 q.y) ∧ W.cell? ⟨(w.heap.size + 2), 2, none⟩ = some (.int .i64 q.e) ∧ W.cell? ⟨(w.heap.size + 3), 0, none⟩ = some (.int .i64 r.x) ∧ W.cell? ⟨(w.heap.size + 3), 1, none⟩ = some (.int .i64 r.y) ∧ W.cell? ⟨(w.heap.size + 3), 2, none⟩ = some (.int .i64 r.e) ∧ W.cell? ⟨gm, 0, none⟩ = some (.int .i64 s.x) ∧ W.cell? ⟨gm, 1, none⟩ = some (.int .i64 s.y) ∧ W.cell? ⟨gm, 2, none⟩ = some (.int .i64 s.e) ∧ Below w3.heap.size w3 W) → (W.drew.cell? ⟨w.heap.size, 0, none⟩ = some (.int .i64 a) ∧ W.drew.cell? ⟨w.heap.size, 1, none⟩ = some (.int .i64 b) ∧ W.drew.cell? ⟨(w.heap.size + 1), 0, none⟩ = some (.int .i64 p.x) ∧ W.drew.cell? ⟨(w.heap.size + 1), 1, none⟩ = some (.int .i64 p.y) ∧ W.drew.cell? ⟨(w.heap.size + 1), 2, none⟩ = some (.int .i64 p.e) ∧ W.drew.cell? ⟨(w.heap.size + 2), 0, none⟩ = some (.int .i64 q.x) ∧ W.drew.cell? ⟨(w.heap.size + 2), 1, none⟩ = some (.int .i64 q.y) ∧ W.drew.cell? ⟨(w.heap.size + 2), 2, none⟩ = some (.int .i64 q.e) ∧ W.drew.cell? ⟨(w.heap.size + 3), 0, none⟩ = some (.int .i64 r.x) ∧ W.drew.cell? ⟨(w.heap.size + 3), 1, none⟩ = some (.int .i64 r.y) ∧ W.drew.cell? ⟨(w.heap.size + 3), 2, none⟩ = some (.int .i64 r.e) ∧ W.drew.cell? ⟨gm, 0, none⟩ = some (.int .i64 s.x) ∧ W.drew.cell? ⟨gm, 1, none⟩ = some (.int .i64 s.y) ∧ W.drew.cell? ⟨gm, 2, none⟩ = some (.int .i64 s.e) ∧ Below w3.heap.size w3 W.drew) := fun W ⟨_, _, _, _, _, _, _, _, _, _, _, _, _, _, hW⟩ => KM _ (Below.drewN' hW 1)
  have KB : ∀ (W : World), (W.cell? ⟨w.heap.size, 0, none⟩ = some (.int .i64 a) ∧ W.cell? ⟨w.heap.size, 1, none⟩ = some (.int .i64 b) ∧ W.cell? ⟨(w.heap.size + 1), 0, none⟩ = some (.int .i64 p.x) ∧ W.cell? ⟨(w.heap.size + 1), 1, none⟩ = some (.int .i64 p.y) ∧ W.cell? ⟨(w.heap.size + 1), 2, none⟩ = some (.int .i64 p.e) ∧ W.cell? ⟨(w.heap.size + 2), 0, none⟩ = some (.int .i64 q.x) ∧ W.cell? ⟨(w.heap.size + 2), 1, none⟩ = some (.int .i64 q.y) ∧ W.cell? ⟨(w.heap.size + 2), 2, none⟩ = some (.int .i64 q.e) ∧ W.cell? ⟨(w.heap.size + 3), 0, none⟩ = some (.int .i64 r.x) ∧ W.cell? ⟨(w.heap.size + 3), 1, none⟩ = some (.int .i64 r.y) ∧ W.cell? ⟨(w.heap.size + 3), 2, none⟩ = some (.int .i64 r.e) ∧ W.cell? ⟨gm, 0, none⟩ = some (.int .i64 s.x) ∧ W.cell? ⟨gm, 1, none⟩ = some (.int .i64 s.y) ∧ W.cell? ⟨gm, 2, none⟩ = some (.int .i64 s.e) ∧ Below w3.heap.size w3 W) → Below w3.heap.size w3 W := fun W ⟨_, _, _, _, _, _, _, _, _, _, _, _, _, _, hW⟩ => hW
  have KM0 := KM w3.drew ⟨rfl, rfl, rfl, Nat.le_refl _, fun _ _ => rfl⟩
  have KM00 := KM _ (Below.refl _ _)
  replace KC := Lib.hid KC
  replace KA := Lib.hid KA
  replace KD := Lib.hid KD
  replace KB := Lib.hid KB
  clear KM kc0 kc1 lc kp0 kp1 kp2 lp kq0 kq1 kq2 lq kr0 kr1 kr2 lr km0 km1 km2 lm
  go_cut [8, 9] (fun s8 s9 wx => s8 = .bool (s.x == r.x && s.y == -r.y && s.e == r.e) ∧ s9 = .bool true ∧ Below w3.heap.size w3 wx)
  case first =>
    go_region_held3 (fun w' => w'.cell? ⟨w.heap.size, 0, none⟩ = some (.int .i64 a) ∧ w'.cell? ⟨w.heap.size, 1, none⟩ = some (.int .i64 b) ∧ w'.cell? ⟨(w.heap.size + 1), 0, none⟩ = some (.int .i64 p.x) ∧ w'.cell? ⟨(w.heap.size + 1), 1, none⟩ = some (.int .i64 p.y) ∧ w'.cell? ⟨(w.heap.size + 1), 2, none⟩ = some (.int .i64 p.e) ∧ w'.cell? ⟨(w.heap.size + 2), 0, none⟩ = some (.int .i64 q.x) ∧ w'.cell? ⟨(w.heap.size + 2), 1, none⟩ = some (.int .i64 q.y) ∧ w'.cell? ⟨(w.heap.size + 2), 2, none⟩ = some (.int .i64 q.e) ∧ w'.cell? ⟨(w.heap.size + 3), 0, none⟩ = some (.int .i64 r.x) ∧ w'.cell? ⟨(w.heap.size + 3), 1, none⟩ = some (.int .i64 r.y) ∧ w'.cell? ⟨(w.heap.size + 3), 2, none⟩ = some (.int .i64 r.e) ∧ w'.cell? ⟨gm, 0, none⟩ = some (.int .i64 s.x) ∧ w'.cell? ⟨gm, 1, none⟩ = some (.int .i64 s.y) ∧ w'.cell? ⟨gm, 2, none⟩ = some (.int .i64 s.e) ∧ Below w3.heap.size w3 w') ((first | (with_reducible assumption) | ((with_reducible refine KD.out _ ?_); (with_reducible assumption)) | ((with_reducible refine KA.out _ _ ?_); (first | (with_reducible assumption) | ((with_reducible refine KD.out _ ?_); (with_reducible assumption)))) | ((with_reducible refine KC.out _ _ ?_ ?_); (with_reducible assumption); (with_reducible assumption))))
      (first
        | (go_at_call 35; (with_reducible refine (co.out _).mono ?_); rintro e wC0 ⟨rfl, hbC⟩; have hS0 : wC0.cell? ⟨w.heap.size, 0, none⟩ = some (.int .i64 a) ∧ wC0.cell? ⟨w.heap.size, 1, none⟩ = some (.int .i64 b) ∧ wC0.cell? ⟨(w.heap.size + 1), 0, none⟩ = some (.int .i64 p.x) ∧ wC0.cell? ⟨(w.heap.size + 1), 1, none⟩ = some (.int .i64 p.y) ∧ wC0.cell? ⟨(w.heap.size + 1), 2, none⟩ = some (.int .i64 p.e) ∧ wC0.cell? ⟨(w.heap.size + 2), 0, none⟩ = some (.int .i64 q.x) ∧ wC0.cell? ⟨(w.heap.size + 2), 1, none⟩ = some (.int .i64 q.y) ∧ wC0.cell? ⟨(w.heap.size + 2), 2, none⟩ = some (.int .i64 q.e) ∧ wC0.cell? ⟨(w.heap.size + 3), 0, none⟩ = some (.int .i64 r.x) ∧ wC0.cell? ⟨(w.heap.size + 3), 1, none⟩ = some (.int .i64 r.y) ∧ wC0.cell? ⟨(w.heap.size + 3), 2, none⟩ = some (.int .i64 r.e) ∧ wC0.cell? ⟨gm, 0, none⟩ = some (.int .i64 s.x) ∧ wC0.cell? ⟨gm, 1, none⟩ = some (.int .i64 s.y) ∧ wC0.cell? ⟨gm, 2, none⟩ = some (.int .i64 s.e) ∧ Below w3.heap.size w3 wC0 := KC.out _ _ hbC (by assumption)))
    all_goals (go_wp2_with fail; go_meet)
    all_goals refine ⟨rfl, rfl, KB.out _ ?_⟩
    all_goals (first | (with_reducible assumption) | ((with_reducible refine KD.out _ ?_); (with_reducible assumption)))
  case rest =>
  obtain ⟨rfl, rfl, hb⟩ := hcut
  clear KM0 KM00 KC KA KD KB
  replace h := Below.step h hb
  replace hxc := hxc.kept hb
  replace hxp := hxp.kept hb
  replace hxq := hxq.kept hb
  replace hxr := hxr.kept hb
  replace hxm := hxm.kept hb
  clear hb
  obtain ⟨kc0, kc1⟩ := hxc.two
  have lc := hxc.lt
  obtain ⟨kp0, kp1, kp2⟩ := hxp.three
  have lp := hxp.lt
  obtain ⟨kq0, kq1, kq2⟩ := hxq.three
  have lq := hxq.lt
  obtain ⟨kr0, kr1, kr2⟩ := hxr.three
  have lr := hxr.lt
  obtain ⟨km0, km1, km2⟩ := hxm.three
  have lm := hxm.lt
  go_wp2_with fail
  go_ret2
  exact ⟨rfl, h⟩

end Go.Proofs.YtabcnkobojkdhaaDoor
