/- PointsAtX of the program (written by wip/gen/ptxi.py). -/
import Derived.Test.YtabcnkobojkdhaaPtX
import Derived.Test.YtabcnkobojkdhaaPtPl
import Derived.Test.YtabcnkobojkdhaaPtI
import Derived.Deep.RegionHeld3
import Derived.Deep.DeepCutAuto
import Derived.BigQuiet
namespace Go.Proofs.Ytabcnkobojkdhaa
open Go.RowKit Go.Joins

set_option maxHeartbeats 1000000 in
set_option maxRecDepth 100000 in
theorem atXI_bad (a b n d : Int) (w : World) (g : ¬ EcG a b) (u v r : Int) (ok : Bool) (c1 : ∀ W : World, Calls Try.prog 35 #[.agg #[.int .i64 n, .int .i64 d]] W (GivesPB W u v r ok)) : Calls Try.prog 16 #[.agg #[.int .i64 a, .int .i64 b], .agg #[.int .i64 n, .int .i64 d]] w (GivesPRowOk w [] false) := by
  replace c1 := Lib.hid c1
  have h := Below.refl w.heap.size w
  have hA := below_alloc1 w (.cells #[.int .i64 a, .int .i64 b] 27)
  have hxc := Box.new w 27 #[.int .i64 a, .int .i64 b]
  replace h := Below.step h hA
  clear hA
  have hA := below_alloc1 (w.alloc (.cells #[.int .i64 a, .int .i64 b] 27)) (.cells #[.int .i64 n, .int .i64 d] 40)
  have hxf := Box.new (w.alloc (.cells #[.int .i64 a, .int .i64 b] 27)) 40 #[.int .i64 n, .int .i64 d]
  rw [show (w.alloc (.cells #[.int .i64 a, .int .i64 b] 27)).heap.size = w.heap.size + 1 from by simp] at hxf
  replace h := Below.step h hA
  replace hxc := hxc.kept hA
  clear hA
  obtain ⟨kc0, kc1⟩ := hxc.two
  have lc := hxc.lt
  obtain ⟨kf0, kf1⟩ := hxf.two
  have lf := hxf.lt
  go_enter Try.func16, Try.ntmps16
  go_wp2_with fail
  refine (c1.out _).mono ?_
  rintro e w1 ⟨rfl, hb⟩
  replace h := Below.step h hb
  replace hxc := hxc.kept hb
  replace hxf := hxf.kept hb
  clear hb kc0 kc1 lc kf0 kf1 lf
  obtain ⟨kc0, kc1⟩ := hxc.two
  have lc := hxc.lt
  obtain ⟨kf0, kf1⟩ := hxf.two
  have lf := hxf.lt
  go_wp2_with fail
  have hgm : w.heap.size + 1 < w1.heap.size := hxf.lt
  have hA := below_alloc1 w1 (.cells #[.int .i64 u, .int .i64 v, .int .i64 r] 29)
  have hxm := Box.new w1 29 #[.int .i64 u, .int .i64 v, .int .i64 r]
  replace h := Below.step h hA
  replace hxc := hxc.kept hA
  replace hxf := hxf.kept hA
  clear hA kc0 kc1 lc kf0 kf1 lf
  generalize w1.alloc (.cells #[.int .i64 u, .int .i64 v, .int .i64 r] 29) = w2 at *
  generalize w1.heap.size = gm at hxm hgm ⊢
  obtain ⟨kc0, kc1⟩ := hxc.two
  have lc := hxc.lt
  obtain ⟨kf0, kf1⟩ := hxf.two
  have lf := hxf.lt
  obtain ⟨km0, km1, km2⟩ := hxm.three
  have lm := hxm.lt
  refine (isCurveI_no a b _ g).mono ?_
  rintro e w3 ⟨rfl, hb⟩
  replace h := Below.step h hb
  replace hxc := hxc.kept hb
  replace hxf := hxf.kept hb
  replace hxm := hxm.kept hb
  clear hb kc0 kc1 lc kf0 kf1 lf km0 km1 km2 lm
  obtain ⟨kc0, kc1⟩ := hxc.two
  have lc := hxc.lt
  obtain ⟨kf0, kf1⟩ := hxf.two
  have lf := hxf.lt
  obtain ⟨km0, km1, km2⟩ := hxm.three
  have lm := hxm.lt
  go_wp2_with fail
  go_ret2
  exact ⟨none, 0, rfl, ownP_nil _ _, h⟩


set_option maxHeartbeats 1000000 in
set_option maxRecDepth 100000 in
theorem atXI_pl (a b n d : Int) (w : World) (g : EcG a b) (u v r : Int) (c1 : ∀ W : World, Calls Try.prog 35 #[.agg #[.int .i64 n, .int .i64 d]] W (GivesPB W u v r false)) : Calls Try.prog 16 #[.agg #[.int .i64 a, .int .i64 b], .agg #[.int .i64 n, .int .i64 d]] w (GivesPRowOk w [] false) := by
  replace c1 := Lib.hid c1
  have h := Below.refl w.heap.size w
  have hA := below_alloc1 w (.cells #[.int .i64 a, .int .i64 b] 27)
  have hxc := Box.new w 27 #[.int .i64 a, .int .i64 b]
  replace h := Below.step h hA
  clear hA
  have hA := below_alloc1 (w.alloc (.cells #[.int .i64 a, .int .i64 b] 27)) (.cells #[.int .i64 n, .int .i64 d] 40)
  have hxf := Box.new (w.alloc (.cells #[.int .i64 a, .int .i64 b] 27)) 40 #[.int .i64 n, .int .i64 d]
  rw [show (w.alloc (.cells #[.int .i64 a, .int .i64 b] 27)).heap.size = w.heap.size + 1 from by simp] at hxf
  replace h := Below.step h hA
  replace hxc := hxc.kept hA
  clear hA
  obtain ⟨kc0, kc1⟩ := hxc.two
  have lc := hxc.lt
  obtain ⟨kf0, kf1⟩ := hxf.two
  have lf := hxf.lt
  go_enter Try.func16, Try.ntmps16
  go_wp2_with fail
  refine (c1.out _).mono ?_
  rintro e w1 ⟨rfl, hb⟩
  replace h := Below.step h hb
  replace hxc := hxc.kept hb
  replace hxf := hxf.kept hb
  clear hb kc0 kc1 lc kf0 kf1 lf
  obtain ⟨kc0, kc1⟩ := hxc.two
  have lc := hxc.lt
  obtain ⟨kf0, kf1⟩ := hxf.two
  have lf := hxf.lt
  go_wp2_with fail
  have hgm : w.heap.size + 1 < w1.heap.size := hxf.lt
  have hA := below_alloc1 w1 (.cells #[.int .i64 u, .int .i64 v, .int .i64 r] 29)
  have hxm := Box.new w1 29 #[.int .i64 u, .int .i64 v, .int .i64 r]
  replace h := Below.step h hA
  replace hxc := hxc.kept hA
  replace hxf := hxf.kept hA
  clear hA kc0 kc1 lc kf0 kf1 lf
  generalize w1.alloc (.cells #[.int .i64 u, .int .i64 v, .int .i64 r] 29) = w2 at *
  generalize w1.heap.size = gm at hxm hgm ⊢
  obtain ⟨kc0, kc1⟩ := hxc.two
  have lc := hxc.lt
  obtain ⟨kf0, kf1⟩ := hxf.two
  have lf := hxf.lt
  obtain ⟨km0, km1, km2⟩ := hxm.three
  have lm := hxm.lt
  refine (isCurveI_yes a b _ g).mono ?_
  rintro e w3 ⟨rfl, hb⟩
  replace h := Below.step h hb
  replace hxc := hxc.kept hb
  replace hxf := hxf.kept hb
  replace hxm := hxm.kept hb
  clear hb kc0 kc1 lc kf0 kf1 lf km0 km1 km2 lm
  obtain ⟨kc0, kc1⟩ := hxc.two
  have lc := hxc.lt
  obtain ⟨kf0, kf1⟩ := hxf.two
  have lf := hxf.lt
  obtain ⟨km0, km1, km2⟩ := hxm.three
  have lm := hxm.lt
  go_wp2_with fail
  go_ret2
  exact ⟨none, 0, rfl, ownP_nil _ _, h⟩


set_option maxHeartbeats 1000000 in
set_option maxRecDepth 100000 in
theorem atXI_no (a b n d : Int) (w : World) (g : EcG a b) (E V : Int) (R : Nat) (c1 : ∀ W : World, Calls Try.prog 35 #[.agg #[.int .i64 n, .int .i64 d]] W (GivesPB W n 0 E true)) (c2 : ∀ W : World, Calls Try.prog 27 #[.agg #[.int .i64 a, .int .i64 b], .int .i64 n, .int .i64 E] W (GivesI W V)) (c3 : ∀ W : World, Calls Try.prog 36 #[.int .i64 V] W fun e w' => e = .returned (.tuple #[.int .i64 (R : Int), .bool false]) ∧ W = w') : Calls Try.prog 16 #[.agg #[.int .i64 a, .int .i64 b], .agg #[.int .i64 n, .int .i64 d]] w (GivesPRowOk w [] true) := by
  have cg := fun W => isCurveI_yes a b W g
  replace cg := Lib.hid cg
  replace c1 := Lib.hid c1
  replace c2 := Lib.hid c2
  replace c3 := Lib.hid c3
  clear g
  have h := Below.refl w.heap.size w
  have hA := below_alloc1 w (.cells #[.int .i64 a, .int .i64 b] 27)
  have hxc := Box.new w 27 #[.int .i64 a, .int .i64 b]
  replace h := Below.step h hA
  clear hA
  have hA := below_alloc1 (w.alloc (.cells #[.int .i64 a, .int .i64 b] 27)) (.cells #[.int .i64 n, .int .i64 d] 40)
  have hxf := Box.new (w.alloc (.cells #[.int .i64 a, .int .i64 b] 27)) 40 #[.int .i64 n, .int .i64 d]
  rw [show (w.alloc (.cells #[.int .i64 a, .int .i64 b] 27)).heap.size = w.heap.size + 1 from by simp] at hxf
  replace h := Below.step h hA
  replace hxc := hxc.kept hA
  clear hA
  obtain ⟨kc0, kc1⟩ := hxc.two
  have lc := hxc.lt
  obtain ⟨kf0, kf1⟩ := hxf.two
  have lf := hxf.lt
  go_enter Try.func16, Try.ntmps16
  go_wp2_with fail
  refine (c1.out _).mono ?_
  rintro e w1 ⟨rfl, hb⟩
  replace h := Below.step h hb
  replace hxc := hxc.kept hb
  replace hxf := hxf.kept hb
  clear hb kc0 kc1 lc kf0 kf1 lf
  obtain ⟨kc0, kc1⟩ := hxc.two
  have lc := hxc.lt
  obtain ⟨kf0, kf1⟩ := hxf.two
  have lf := hxf.lt
  go_wp2_with fail
  have hgm : w.heap.size + 1 < w1.heap.size := hxf.lt
  have hA := below_alloc1 w1 (.cells #[.int .i64 n, .int .i64 0, .int .i64 E] 29)
  have hxm := Box.new w1 29 #[.int .i64 n, .int .i64 0, .int .i64 E]
  replace h := Below.step h hA
  replace hxc := hxc.kept hA
  replace hxf := hxf.kept hA
  clear hA kc0 kc1 lc kf0 kf1 lf
  generalize w1.alloc (.cells #[.int .i64 n, .int .i64 0, .int .i64 E] 29) = w2 at *
  generalize w1.heap.size = gm at hxm hgm ⊢
  obtain ⟨kc0, kc1⟩ := hxc.two
  have lc := hxc.lt
  obtain ⟨kf0, kf1⟩ := hxf.two
  have lf := hxf.lt
  obtain ⟨km0, km1, km2⟩ := hxm.three
  have lm := hxm.lt
  refine (cg.out _).mono ?_
  rintro e w3 ⟨rfl, hb⟩
  replace h := Below.step h hb
  replace hxc := hxc.kept hb
  replace hxf := hxf.kept hb
  replace hxm := hxm.kept hb
  clear hb kc0 kc1 lc kf0 kf1 lf km0 km1 km2 lm
  obtain ⟨kc0, kc1⟩ := hxc.two
  have lc := hxc.lt
  obtain ⟨kf0, kf1⟩ := hxf.two
  have lf := hxf.lt
  obtain ⟨km0, km1, km2⟩ := hxm.three
  have lm := hxm.lt
  go_wp2_with fail
  refine (c2.out _).mono ?_
  rintro e w4 ⟨rfl, hb⟩
  replace h := Below.step h hb
  replace hxc := hxc.kept hb
  replace hxf := hxf.kept hb
  replace hxm := hxm.kept hb
  clear hb kc0 kc1 lc kf0 kf1 lf km0 km1 km2 lm
  obtain ⟨kc0, kc1⟩ := hxc.two
  have lc := hxc.lt
  obtain ⟨kf0, kf1⟩ := hxf.two
  have lf := hxf.lt
  obtain ⟨km0, km1, km2⟩ := hxm.three
  have lm := hxm.lt
  go_wp2_with fail
  refine (c3.out _).mono ?_
  rintro e w5 ⟨rfl, rfl⟩
  go_wp2_with fail
  go_ret2
  exact ⟨none, 0, rfl, ownP_nil _ _, h⟩


set_option maxHeartbeats 1000000 in
set_option maxRecDepth 100000 in
theorem atXI_one (a b n d : Int) (w : World) (g : EcG a b) (E V : Int) (R : Nat) (c1 : ∀ W : World, Calls Try.prog 35 #[.agg #[.int .i64 n, .int .i64 d]] W (GivesPB W n 0 E true)) (c2 : ∀ W : World, Calls Try.prog 27 #[.agg #[.int .i64 a, .int .i64 b], .int .i64 n, .int .i64 E] W (GivesI W V)) (c3 : ∀ W : World, Calls Try.prog 36 #[.int .i64 V] W fun e w' => e = .returned (.tuple #[.int .i64 (R : Int), .bool true]) ∧ W = w') (hR : R = 0) : Calls Try.prog 16 #[.agg #[.int .i64 a, .int .i64 b], .agg #[.int .i64 n, .int .i64 d]] w (GivesPRowOk w [⟨n, 0, E⟩] true) := by
  subst hR
  have cg := fun W => isCurveI_yes a b W g
  replace cg := Lib.hid cg
  replace c1 := Lib.hid c1
  replace c2 := Lib.hid c2
  replace c3 := Lib.hid c3
  clear g
  have h := Below.refl w.heap.size w
  have hA := below_alloc1 w (.cells #[.int .i64 a, .int .i64 b] 27)
  have hxc := Box.new w 27 #[.int .i64 a, .int .i64 b]
  replace h := Below.step h hA
  clear hA
  have hA := below_alloc1 (w.alloc (.cells #[.int .i64 a, .int .i64 b] 27)) (.cells #[.int .i64 n, .int .i64 d] 40)
  have hxf := Box.new (w.alloc (.cells #[.int .i64 a, .int .i64 b] 27)) 40 #[.int .i64 n, .int .i64 d]
  rw [show (w.alloc (.cells #[.int .i64 a, .int .i64 b] 27)).heap.size = w.heap.size + 1 from by simp] at hxf
  replace h := Below.step h hA
  replace hxc := hxc.kept hA
  clear hA
  obtain ⟨kc0, kc1⟩ := hxc.two
  have lc := hxc.lt
  obtain ⟨kf0, kf1⟩ := hxf.two
  have lf := hxf.lt
  go_enter Try.func16, Try.ntmps16
  go_wp2_with fail
  refine (c1.out _).mono ?_
  rintro e w1 ⟨rfl, hb⟩
  replace h := Below.step h hb
  replace hxc := hxc.kept hb
  replace hxf := hxf.kept hb
  clear hb kc0 kc1 lc kf0 kf1 lf
  obtain ⟨kc0, kc1⟩ := hxc.two
  have lc := hxc.lt
  obtain ⟨kf0, kf1⟩ := hxf.two
  have lf := hxf.lt
  go_wp2_with fail
  have hgm : w.heap.size + 1 < w1.heap.size := hxf.lt
  have hA := below_alloc1 w1 (.cells #[.int .i64 n, .int .i64 0, .int .i64 E] 29)
  have hxm := Box.new w1 29 #[.int .i64 n, .int .i64 0, .int .i64 E]
  replace h := Below.step h hA
  replace hxc := hxc.kept hA
  replace hxf := hxf.kept hA
  clear hA kc0 kc1 lc kf0 kf1 lf
  generalize w1.alloc (.cells #[.int .i64 n, .int .i64 0, .int .i64 E] 29) = w2 at *
  generalize w1.heap.size = gm at hxm hgm ⊢
  obtain ⟨kc0, kc1⟩ := hxc.two
  have lc := hxc.lt
  obtain ⟨kf0, kf1⟩ := hxf.two
  have lf := hxf.lt
  obtain ⟨km0, km1, km2⟩ := hxm.three
  have lm := hxm.lt
  refine (cg.out _).mono ?_
  rintro e w3 ⟨rfl, hb⟩
  replace h := Below.step h hb
  replace hxc := hxc.kept hb
  replace hxf := hxf.kept hb
  replace hxm := hxm.kept hb
  clear hb kc0 kc1 lc kf0 kf1 lf km0 km1 km2 lm
  obtain ⟨kc0, kc1⟩ := hxc.two
  have lc := hxc.lt
  obtain ⟨kf0, kf1⟩ := hxf.two
  have lf := hxf.lt
  obtain ⟨km0, km1, km2⟩ := hxm.three
  have lm := hxm.lt
  go_wp2_with fail
  refine (c2.out _).mono ?_
  rintro e w4 ⟨rfl, hb⟩
  replace h := Below.step h hb
  replace hxc := hxc.kept hb
  replace hxf := hxf.kept hb
  replace hxm := hxm.kept hb
  clear hb kc0 kc1 lc kf0 kf1 lf km0 km1 km2 lm
  obtain ⟨kc0, kc1⟩ := hxc.two
  have lc := hxc.lt
  obtain ⟨kf0, kf1⟩ := hxf.two
  have lf := hxf.lt
  obtain ⟨km0, km1, km2⟩ := hxm.three
  have lm := hxm.lt
  go_wp2_with fail
  have fm0 := hxm.free 0
  have fm1 := hxm.free 1
  have fm2 := hxm.free 2
  obtain ⟨t0, t1, t2⟩ := (hxm.set 1 (.int .i64 0)).three
  have hsz := h.size
  have hbs : Below w.heap.size w (w4.setCell ⟨gm, 1, none⟩ (.int .i64 0)) := h.setCell (show w.heap.size ≤ gm by omega) _
  have hown : OwnP ((w4.setCell ⟨gm, 1, none⟩ (.int .i64 0)).alloc (.cells #[.int .i64 n, .int .i64 0, .int .i64 E] 29)) w.heap.size (.slice (some ⟨w4.heap.size, 0, none⟩) 1 1) [⟨n, 0, E⟩] := by have := ownP_lit1 (w4.setCell ⟨gm, 1, none⟩ (.int .i64 0)) ⟨n, 0, E⟩ (base := w.heap.size) (by rw [show (w4.setCell ⟨gm, 1, none⟩ (.int .i64 0)).heap.size = w4.heap.size from by simp]; exact hsz); rwa [show (w4.setCell ⟨gm, 1, none⟩ (.int .i64 0)).heap.size = w4.heap.size from by simp] at this
  refine (c3.out _).mono ?_
  rintro e w5 ⟨rfl, rfl⟩
  go_wp2_with fail
  go_ret2
  exact ⟨_, 1, rfl, hown, Below.step hbs (below_alloc1 _ _)⟩


set_option maxHeartbeats 4000000 in
set_option maxRecDepth 100000 in
theorem atXI_two (a b n d : Int) (w : World) (g : EcG a b) (E V : Int) (R : Nat) (c1 : ∀ W : World, Calls Try.prog 35 #[.agg #[.int .i64 n, .int .i64 d]] W (GivesPB W n 0 E true)) (c2 : ∀ W : World, Calls Try.prog 27 #[.agg #[.int .i64 a, .int .i64 b], .int .i64 n, .int .i64 E] W (GivesI W V)) (c3 : ∀ W : World, Calls Try.prog 36 #[.int .i64 V] W fun e w' => e = .returned (.tuple #[.int .i64 (R : Int), .bool true]) ∧ W = w') (hR : 1 ≤ R) (hRb : R ≤ 4000000) : Calls Try.prog 16 #[.agg #[.int .i64 a, .int .i64 b], .agg #[.int .i64 n, .int .i64 d]] w (GivesPRowOk w [⟨n, -(R : Int), E⟩, ⟨n, R, E⟩] true) := by
  have cg := fun W => isCurveI_yes a b W g
  replace cg := Lib.hid cg
  replace c1 := Lib.hid c1
  replace c2 := Lib.hid c2
  replace c3 := Lib.hid c3
  clear g
  have e0 : ((R : Int) == 0) = false := by simp; omega
  have hR2 : (R : Int) ≤ 4000000 := by omega
  have h := Below.refl w.heap.size w
  have hA := below_alloc1 w (.cells #[.int .i64 a, .int .i64 b] 27)
  have hxc := Box.new w 27 #[.int .i64 a, .int .i64 b]
  replace h := Below.step h hA
  clear hA
  have hA := below_alloc1 (w.alloc (.cells #[.int .i64 a, .int .i64 b] 27)) (.cells #[.int .i64 n, .int .i64 d] 40)
  have hxf := Box.new (w.alloc (.cells #[.int .i64 a, .int .i64 b] 27)) 40 #[.int .i64 n, .int .i64 d]
  rw [show (w.alloc (.cells #[.int .i64 a, .int .i64 b] 27)).heap.size = w.heap.size + 1 from by simp] at hxf
  replace h := Below.step h hA
  replace hxc := hxc.kept hA
  clear hA
  obtain ⟨kc0, kc1⟩ := hxc.two
  have lc := hxc.lt
  obtain ⟨kf0, kf1⟩ := hxf.two
  have lf := hxf.lt
  go_enter Try.func16, Try.ntmps16
  go_wp2_with fail
  refine (c1.out _).mono ?_
  rintro e w1 ⟨rfl, hb⟩
  replace h := Below.step h hb
  replace hxc := hxc.kept hb
  replace hxf := hxf.kept hb
  clear hb kc0 kc1 lc kf0 kf1 lf
  obtain ⟨kc0, kc1⟩ := hxc.two
  have lc := hxc.lt
  obtain ⟨kf0, kf1⟩ := hxf.two
  have lf := hxf.lt
  go_wp2_with fail
  have hgm : w.heap.size + 1 < w1.heap.size := hxf.lt
  have hA := below_alloc1 w1 (.cells #[.int .i64 n, .int .i64 0, .int .i64 E] 29)
  have hxm := Box.new w1 29 #[.int .i64 n, .int .i64 0, .int .i64 E]
  replace h := Below.step h hA
  replace hxc := hxc.kept hA
  replace hxf := hxf.kept hA
  clear hA kc0 kc1 lc kf0 kf1 lf
  generalize w1.alloc (.cells #[.int .i64 n, .int .i64 0, .int .i64 E] 29) = w2 at *
  generalize w1.heap.size = gm at hxm hgm ⊢
  obtain ⟨kc0, kc1⟩ := hxc.two
  have lc := hxc.lt
  obtain ⟨kf0, kf1⟩ := hxf.two
  have lf := hxf.lt
  obtain ⟨km0, km1, km2⟩ := hxm.three
  have lm := hxm.lt
  refine (cg.out _).mono ?_
  rintro e w3 ⟨rfl, hb⟩
  replace h := Below.step h hb
  replace hxc := hxc.kept hb
  replace hxf := hxf.kept hb
  replace hxm := hxm.kept hb
  clear hb kc0 kc1 lc kf0 kf1 lf km0 km1 km2 lm
  obtain ⟨kc0, kc1⟩ := hxc.two
  have lc := hxc.lt
  obtain ⟨kf0, kf1⟩ := hxf.two
  have lf := hxf.lt
  obtain ⟨km0, km1, km2⟩ := hxm.three
  have lm := hxm.lt
  go_wp2_with fail
  refine (c2.out _).mono ?_
  rintro e w4 ⟨rfl, hb⟩
  replace h := Below.step h hb
  replace hxc := hxc.kept hb
  replace hxf := hxf.kept hb
  replace hxm := hxm.kept hb
  clear hb kc0 kc1 lc kf0 kf1 lf km0 km1 km2 lm
  obtain ⟨kc0, kc1⟩ := hxc.two
  have lc := hxc.lt
  obtain ⟨kf0, kf1⟩ := hxf.two
  have lf := hxf.lt
  obtain ⟨km0, km1, km2⟩ := hxm.three
  have lm := hxm.lt
  go_wp2_with fail
  have fm1 := hxm.free 1
  have hS : Box (w4.setCell ⟨gm, 1, none⟩ (.int .i64 (R : Int))) gm 29 #[.int .i64 n, .int .i64 (R : Int), .int .i64 E] := hxm.set 1 (.int .i64 (R : Int))
  have hsz := h.size
  have hbs : Below w.heap.size w (w4.setCell ⟨gm, 1, none⟩ (.int .i64 (R : Int))) := h.setCell (show w.heap.size ≤ gm by omega) _
  have hgl : w.heap.size ≤ (w4.setCell ⟨gm, 1, none⟩ (.int .i64 (R : Int))).heap.size := hbs.size
  refine (c3.out _).mono ?_
  rintro e wq ⟨rfl, rfl⟩
  go_upto_region 10 with fail
  clear h hxc hxf hxm fm1 hsz kc0 kc1 lc kf0 kf1 lf km0 km1 km2 lm
  generalize (w4.setCell ⟨gm, 1, none⟩ (.int .i64 (R : Int))) = wq at *
  have KM : ∀ (W : World), Below wq.heap.size wq W → (W.cell? ⟨gm, 0, none⟩ = some (.int .i64 n) ∧ W.cell? ⟨gm, 1, none⟩ = some (.int .i64 (R : Int)) ∧ W.cell? ⟨gm, 2, none⟩ = some (.int .i64 E) ∧ Below wq.heap.size wq W) := fun W hW => ⟨(hS.kept hW).three.1, (hS.kept hW).three.2.1, (hS.kept hW).three.2.2, hW⟩
  have KC : ∀ (W W' : World), Below W.heap.size W W' → (W.cell? ⟨gm, 0, none⟩ = some (.int .i64 n) ∧ W.cell? ⟨gm, 1, none⟩ = some (.int .i64 (R : Int)) ∧ W.cell? ⟨gm, 2, none⟩ = some (.int .i64 E) ∧ Below wq.heap.size wq W) → (W'.cell? ⟨gm, 0, none⟩ = some (.int .i64 n) ∧ W'.cell? ⟨gm, 1, none⟩ = some (.int .i64 (R : Int)) ∧ W'.cell? ⟨gm, 2, none⟩ = some (.int .i64 E) ∧ Below wq.heap.size wq W') := fun W W' hb ⟨_, _, _, hW⟩ => KM _ (Below.step hW hb)
  have KA : ∀ (W : World) (o : Obj), (W.cell? ⟨gm, 0, none⟩ = some (.int .i64 n) ∧ W.cell? ⟨gm, 1, none⟩ = some (.int .i64 (R : Int)) ∧ W.cell? ⟨gm, 2, none⟩ = some (.int .i64 E) ∧ Below wq.heap.size wq W) → ((W.alloc o).cell? ⟨gm, 0, none⟩ = some (.int .i64 n) ∧ (W.alloc o).cell? ⟨gm, 1, none⟩ = some (.int .i64 (R : Int)) ∧ (W.alloc o).cell? ⟨gm, 2, none⟩ = some (.int .i64 E) ∧ Below wq.heap.size wq (W.alloc o)) := fun W o ⟨_, _, _, hW⟩ => KM _ (Below.step hW (below_alloc1 _ _))
  have KD : ∀ (W : World), (W.cell? ⟨gm, 0, none⟩ = some (.int .i64 n) ∧ W.cell? ⟨gm, 1, none⟩ = some (.int .i64 (R : Int)) ∧ W.cell? ⟨gm, 2, none⟩ = some (.int .i64 E) ∧ Below wq.heap.size wq W) → (W.drew.cell? ⟨gm, 0, none⟩ = some (.int .i64 n) ∧ W.drew.cell? ⟨gm, 1, none⟩ = some (.int .i64 (R : Int)) ∧ W.drew.cell? ⟨gm, 2, none⟩ = some (.int .i64 E) ∧ Below wq.heap.size wq W.drew) := fun W ⟨_, _, _, hW⟩ => KM _ (Below.drewN' hW 1)
  have KB : ∀ (W : World), (W.cell? ⟨gm, 0, none⟩ = some (.int .i64 n) ∧ W.cell? ⟨gm, 1, none⟩ = some (.int .i64 (R : Int)) ∧ W.cell? ⟨gm, 2, none⟩ = some (.int .i64 E) ∧ Below wq.heap.size wq W) → Below wq.heap.size wq W := fun W ⟨_, _, _, hW⟩ => hW
  have KM0 := KM wq.drew ⟨rfl, rfl, rfl, Nat.le_refl _, fun _ _ => rfl⟩
  have KM00 := KM _ (Below.refl _ _)
  have co := fun W => oppI_any ⟨n, R, E⟩ W (by dsimp only; omega)
  have lgm := hS.lt
  replace KC := Lib.hid KC
  replace KA := Lib.hid KA
  replace KD := Lib.hid KD
  replace KB := Lib.hid KB
  replace co := Lib.hid co
  clear KM hS
  go_cut [4, 5] (fun s4 s5 wx => ∃ (g : Nat), s4 = .slice (some ⟨g, 0, none⟩) 2 2 ∧ s5 = .bool true ∧ OwnP wx wq.heap.size (.slice (some ⟨g, 0, none⟩) 2 2) [⟨n, -R, E⟩, ⟨n, R, E⟩] ∧ Below wq.heap.size wq wx)
  case first =>
    go_region_held3 (fun w' => w'.cell? ⟨gm, 0, none⟩ = some (.int .i64 n) ∧ w'.cell? ⟨gm, 1, none⟩ = some (.int .i64 (R : Int)) ∧ w'.cell? ⟨gm, 2, none⟩ = some (.int .i64 E) ∧ Below wq.heap.size wq w') ((first | (with_reducible assumption) | ((with_reducible refine KA.out _ _ ?_); (with_reducible assumption)) | ((with_reducible refine KC.out _ _ ?_ ?_); (with_reducible assumption); (with_reducible assumption)) | ((with_reducible refine KD.out _ ?_); (first | (with_reducible assumption) | ((with_reducible refine KA.out _ _ ?_); (with_reducible assumption)) | ((with_reducible refine KC.out _ _ ?_ ?_); (with_reducible assumption); (with_reducible assumption))))))
      (first
        | (go_at_call 29; (with_reducible refine (co.out _).mono ?_); rintro e wC ⟨rfl, hbC⟩; have hSC : wC.cell? ⟨gm, 0, none⟩ = some (.int .i64 n) ∧ wC.cell? ⟨gm, 1, none⟩ = some (.int .i64 (R : Int)) ∧ wC.cell? ⟨gm, 2, none⟩ = some (.int .i64 E) ∧ Below wq.heap.size wq wC := KC.out _ _ hbC (by assumption); have hzC := (KB.out _ hSC).size))
    all_goals (go_wp2_with fail; go_meet)
    all_goals refine ⟨_, rfl, rfl, ?_, KB.out _ ?_⟩
    all_goals (first | (with_reducible assumption) | ((with_reducible refine KA.out _ _ ?_); (with_reducible assumption)) | ((with_reducible refine KD.out _ ?_); (first | (with_reducible assumption) | ((with_reducible refine KA.out _ _ ?_); (with_reducible assumption)))) | exact ownP_lit2 _ ⟨n, -R, E⟩ ⟨n, R, E⟩ hzC | exact (ownP_lit2 _ ⟨n, -R, E⟩ ⟨n, R, E⟩ hzC).kept ⟨rfl, rfl, rfl, Nat.le_refl _, fun _ _ => rfl⟩)
  obtain ⟨g, rfl, rfl, hown, hb⟩ := hcut
  go_wp2_with fail
  go_ret2
  exact ⟨_, 2, rfl, hown.le hgl, Below.step hbs hb⟩

end Go.Proofs.Ytabcnkobojkdhaa
