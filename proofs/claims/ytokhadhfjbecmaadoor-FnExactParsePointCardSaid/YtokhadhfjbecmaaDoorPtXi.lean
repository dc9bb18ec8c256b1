/- Several texts in one (own work). -/
import Derived.Test.YtokhadhfjbecmaaDoorPtI
import Derived.Test.YtokhadhfjbecmaaDoorPtRoot
import Derived.Deep.RegionHeld3
import Derived.Deep.DeepCutAuto
import Derived.BigQuiet
import Derived.Test.YtokhadhfjbecmaaDoorPLaw
import Derived.Test.YtokhadhfjbecmaaDoorPtS
import Derived.Test.YtokhadhfjbecmaaDoorFrGood
import Derived.Test.YtokhadhfjbecmaaDoorPtMul
namespace Go.Proofs.YtokhadhfjbecmaaDoor
open Go.RowKit Go.Joins

set_option maxHeartbeats 1000000 in
set_option maxRecDepth 100000 in
theorem placeAt_sq (n d : Int) (R : Nat) (w : World) (hR : IRt R d) (hs : ¬ (R : Int) * R = d) : Calls Tryd.prog 39 #[.agg #[.int .i64 n, .int .i64 d]] w (GivesPB w 0 0 0 false) := by
  have c1 := fun W => exactRoot_any d W R hR _ (show ((R : Int) * R == d) = false by simpa using hs)
  replace c1 := Lib.hid c1
  clear hs hR
  have h := Below.refl w.heap.size w
  have hA := below_alloc1 w (.cells #[.int .i64 n, .int .i64 d] 42)
  have hxf := Box.new w 42 #[.int .i64 n, .int .i64 d]
  replace h := Below.step h hA
  clear hA
  have hA := below_alloc1 (w.alloc (.cells #[.int .i64 n, .int .i64 d] 42)) (.cells #[.int .i64 0, .int .i64 0, .int .i64 0] 30)
  have hxr := Box.new (w.alloc (.cells #[.int .i64 n, .int .i64 d] 42)) 30 #[.int .i64 0, .int .i64 0, .int .i64 0]
  rw [show (w.alloc (.cells #[.int .i64 n, .int .i64 d] 42)).heap.size = w.heap.size + 1 from by simp] at hxr
  replace h := Below.step h hA
  replace hxf := hxf.kept hA
  clear hA
  obtain ⟨kf0, kf1⟩ := hxf.two
  have lf := hxf.lt
  obtain ⟨kr0, kr1, kr2⟩ := hxr.three
  have lr := hxr.lt
  go_enter Tryd.func39, Tryd.ntmps39
  go_wp2_with fail
  refine (c1.out _).mono ?_
  rintro e w1 ⟨rfl, rfl⟩
  go_wp2_with fail
  refine bodyPost_ret (v := .tuple #[.agg #[.int .i64 0, .int .i64 0, .int .i64 0], .bool false]) (by simp [results, Tryd.results39, go_sem]) (by rfl) ⟨by rfl, ?_⟩
  exact Below.step (below_alloc1 _ _) (below_alloc1 _ _)


set_option maxHeartbeats 1000000 in
set_option maxRecDepth 100000 in
theorem placeAt_pl (n d : Int) (R : Nat) (w : World) (hR : IRt R d) (hs : (R : Int) * R = d) (hp : ¬ Plc n R) : Calls Tryd.prog 39 #[.agg #[.int .i64 n, .int .i64 d]] w (GivesPB w 0 0 0 false) := by
  have c1 := fun W => exactRoot_any d W R hR _ (show ((R : Int) * R == d) = true by simpa using hs)
  replace c1 := Lib.hid c1
  have c2 := fun W => place_any n R W
  rw [decide_eq_false hp] at c2
  replace c2 := Lib.hid c2
  clear hp
  clear hs hR
  have h := Below.refl w.heap.size w
  have hA := below_alloc1 w (.cells #[.int .i64 n, .int .i64 d] 42)
  have hxf := Box.new w 42 #[.int .i64 n, .int .i64 d]
  replace h := Below.step h hA
  clear hA
  have hA := below_alloc1 (w.alloc (.cells #[.int .i64 n, .int .i64 d] 42)) (.cells #[.int .i64 0, .int .i64 0, .int .i64 0] 30)
  have hxr := Box.new (w.alloc (.cells #[.int .i64 n, .int .i64 d] 42)) 30 #[.int .i64 0, .int .i64 0, .int .i64 0]
  rw [show (w.alloc (.cells #[.int .i64 n, .int .i64 d] 42)).heap.size = w.heap.size + 1 from by simp] at hxr
  replace h := Below.step h hA
  replace hxf := hxf.kept hA
  clear hA
  obtain ⟨kf0, kf1⟩ := hxf.two
  have lf := hxf.lt
  obtain ⟨kr0, kr1, kr2⟩ := hxr.three
  have lr := hxr.lt
  go_enter Tryd.func39, Tryd.ntmps39
  go_wp2_with fail
  refine (c1.out _).mono ?_
  rintro e w1 ⟨rfl, rfl⟩
  go_wp2_with fail
  refine (c2.out _).mono ?_
  rintro e w2 ⟨rfl, hb⟩
  replace h := Below.step h hb
  replace hxf := hxf.kept hb
  replace hxr := hxr.kept hb
  clear hb kf0 kf1 lf kr0 kr1 kr2 lr
  obtain ⟨kf0, kf1⟩ := hxf.two
  have lf := hxf.lt
  obtain ⟨kr0, kr1, kr2⟩ := hxr.three
  have lr := hxr.lt
  have fr0 := hxr.free 0
  have fr1 := hxr.free 1
  have fr2 := hxr.free 2
  obtain ⟨sr0, sr1, sr2⟩ := (((hxr.set 0 (.int .i64 0)).set 1 (.int .i64 0)).set 2 (.int .i64 0)).three
  go_wp2_with fail
  refine bodyPost_ret (v := .tuple #[.agg #[.int .i64 0, .int .i64 0, .int .i64 0], .bool false]) (by simp [results, Tryd.results39, go_sem, sr0, sr1, sr2]) (by rfl) ⟨by rfl, ?_⟩
  exact below_sets3 h (by omega) _ _ _


set_option maxHeartbeats 1000000 in
set_option maxRecDepth 100000 in
theorem placeAt_yes (n d : Int) (R : Nat) (w : World) (hR : IRt R d) (hs : (R : Int) * R = d) (hp : Plc n R) : Calls Tryd.prog 39 #[.agg #[.int .i64 n, .int .i64 d]] w (GivesPB w n 0 R true) := by
  have c1 := fun W => exactRoot_any d W R hR _ (show ((R : Int) * R == d) = true by simpa using hs)
  replace c1 := Lib.hid c1
  have c2 := fun W => place_any n R W
  rw [decide_eq_true hp] at c2
  replace c2 := Lib.hid c2
  clear hp
  clear hs hR
  have h := Below.refl w.heap.size w
  have hA := below_alloc1 w (.cells #[.int .i64 n, .int .i64 d] 42)
  have hxf := Box.new w 42 #[.int .i64 n, .int .i64 d]
  replace h := Below.step h hA
  clear hA
  have hA := below_alloc1 (w.alloc (.cells #[.int .i64 n, .int .i64 d] 42)) (.cells #[.int .i64 0, .int .i64 0, .int .i64 0] 30)
  have hxr := Box.new (w.alloc (.cells #[.int .i64 n, .int .i64 d] 42)) 30 #[.int .i64 0, .int .i64 0, .int .i64 0]
  rw [show (w.alloc (.cells #[.int .i64 n, .int .i64 d] 42)).heap.size = w.heap.size + 1 from by simp] at hxr
  replace h := Below.step h hA
  replace hxf := hxf.kept hA
  clear hA
  obtain ⟨kf0, kf1⟩ := hxf.two
  have lf := hxf.lt
  obtain ⟨kr0, kr1, kr2⟩ := hxr.three
  have lr := hxr.lt
  go_enter Tryd.func39, Tryd.ntmps39
  go_wp2_with fail
  refine (c1.out _).mono ?_
  rintro e w1 ⟨rfl, rfl⟩
  go_wp2_with fail
  refine (c2.out _).mono ?_
  rintro e w2 ⟨rfl, hb⟩
  replace h := Below.step h hb
  replace hxf := hxf.kept hb
  replace hxr := hxr.kept hb
  clear hb kf0 kf1 lf kr0 kr1 kr2 lr
  obtain ⟨kf0, kf1⟩ := hxf.two
  have lf := hxf.lt
  obtain ⟨kr0, kr1, kr2⟩ := hxr.three
  have lr := hxr.lt
  have fr0 := hxr.free 0
  have fr1 := hxr.free 1
  have fr2 := hxr.free 2
  obtain ⟨sr0, sr1, sr2⟩ := (((hxr.set 0 (.int .i64 n)).set 1 (.int .i64 0)).set 2 (.int .i64 R)).three
  go_wp2_with fail
  refine bodyPost_ret (v := .tuple #[.agg #[.int .i64 n, .int .i64 0, .int .i64 R], .bool true]) (by simp [results, Tryd.results39, go_sem, sr0, sr1, sr2]) (by rfl) ⟨by rfl, ?_⟩
  exact below_sets3 h (by omega) _ _ _

end Go.Proofs.YtokhadhfjbecmaaDoor

namespace Go.Proofs.YtokhadhfjbecmaaDoor
open Go.RowKit Go.Joins

theorem ownP_lit1 (w : World) (s : P3) {base : Nat} (hb : base ≤ w.heap.size) : OwnP (w.alloc (.cells #[.int .i64 s.x, .int .i64 s.y, .int .i64 s.e] 30)) base (.slice (some ⟨w.heap.size, 0, none⟩) 1 1) [s] :=
  World.ownsRow_lit w #[.int .i64 s.x, .int .i64 s.y, .int .i64 s.e] 1 hb (by unfold maxLen; omega) rfl
theorem ownP_lit2 (w : World) (s r : P3) {base : Nat} (hb : base ≤ w.heap.size) : OwnP (w.alloc (.cells #[.int .i64 s.x, .int .i64 s.y, .int .i64 s.e, .int .i64 r.x, .int .i64 r.y, .int .i64 r.e] 30)) base (.slice (some ⟨w.heap.size, 0, none⟩) 2 2) [s, r] :=
  World.ownsRow_lit w #[.int .i64 s.x, .int .i64 s.y, .int .i64 s.e, .int .i64 r.x, .int .i64 r.y, .int .i64 r.e] 2 hb (by unfold maxLen; omega) rfl
theorem frRoot_i (n : Int) (w : World) (h0 : 0 ≤ n) (h1 : n ≤ 4000000000000000000) : Calls Tryd.prog 34 #[.int .i64 n] w fun e w' => e = .returned (.int .i64 (iroot n)) ∧ w = w' := by
  have := frRoot_any n.toNat w (by omega) _ (rootOf_spec n.toNat)
  rw [show ((n.toNat : Nat) : Int) = n from by omega] at this
  exact this
/-- The points with X and E of a value V. -/
noncomputable def atX (x e V : Int) : List P3 := if V < 0 ∨ iroot V * iroot V ≠ V then [] else if V = 0 then [⟨x, 0, e⟩] else [⟨x, -iroot V, e⟩, ⟨x, iroot V, e⟩]

end Go.Proofs.YtokhadhfjbecmaaDoor

namespace Go.Proofs.YtokhadhfjbecmaaDoor
open Go.RowKit Go.Joins

set_option maxHeartbeats 1000000 in
set_option maxRecDepth 100000 in
theorem atXI_bad (a b n d : Int) (w : World) (g : ¬ EcG a b) (u v r : Int) (ok : Bool) (c1 : ∀ W : World, Calls Tryd.prog 39 #[.agg #[.int .i64 n, .int .i64 d]] W (GivesPB W u v r ok)) : Calls Tryd.prog 23 #[.agg #[.int .i64 a, .int .i64 b], .agg #[.int .i64 n, .int .i64 d]] w (GivesPRowOk w [] false) := by
  replace c1 := Lib.hid c1
  have h := Below.refl w.heap.size w
  have hA := below_alloc1 w (.cells #[.int .i64 a, .int .i64 b] 28)
  have hxc := Box.new w 28 #[.int .i64 a, .int .i64 b]
  replace h := Below.step h hA
  clear hA
  have hA := below_alloc1 (w.alloc (.cells #[.int .i64 a, .int .i64 b] 28)) (.cells #[.int .i64 n, .int .i64 d] 42)
  have hxf := Box.new (w.alloc (.cells #[.int .i64 a, .int .i64 b] 28)) 42 #[.int .i64 n, .int .i64 d]
  rw [show (w.alloc (.cells #[.int .i64 a, .int .i64 b] 28)).heap.size = w.heap.size + 1 from by simp] at hxf
  replace h := Below.step h hA
  replace hxc := hxc.kept hA
  clear hA
  obtain ⟨kc0, kc1⟩ := hxc.two
  have lc := hxc.lt
  obtain ⟨kf0, kf1⟩ := hxf.two
  have lf := hxf.lt
  go_enter Tryd.func23, Tryd.ntmps23
  go_wp2_with fail
  refine (c1.out _).mono ?_
  rintro e w1 ⟨rfl, hb⟩
  replace h := Below.step h hb
  replace hxc := hxc.kept hb
  replace hxf := hxf.kept hb
  clear hb kc0 kc1 lc kf0 kf1 lf
  obtain ⟨kc0, kc1⟩ := hxc.two
  have lc := hxc.lt
  obtain ⟨kf0, kf1⟩ := hxf.two
  have lf := hxf.lt
  go_wp2_with fail
  have hgm : w.heap.size + 1 < w1.heap.size := hxf.lt
  have hA := below_alloc1 w1 (.cells #[.int .i64 u, .int .i64 v, .int .i64 r] 30)
  have hxm := Box.new w1 30 #[.int .i64 u, .int .i64 v, .int .i64 r]
  replace h := Below.step h hA
  replace hxc := hxc.kept hA
  replace hxf := hxf.kept hA
  clear hA kc0 kc1 lc kf0 kf1 lf
  generalize w1.alloc (.cells #[.int .i64 u, .int .i64 v, .int .i64 r] 30) = w2 at *
  generalize w1.heap.size = gm at hxm hgm ⊢
  obtain ⟨kc0, kc1⟩ := hxc.two
  have lc := hxc.lt
  obtain ⟨kf0, kf1⟩ := hxf.two
  have lf := hxf.lt
  obtain ⟨km0, km1, km2⟩ := hxm.three
  have lm := hxm.lt
  refine (isCurveI_no a b _ g).mono ?_
  rintro e w3 ⟨rfl, hb⟩
  replace h := Below.step h hb
  replace hxc := hxc.kept hb
  replace hxf := hxf.kept hb
  replace hxm := hxm.kept hb
  clear hb kc0 kc1 lc kf0 kf1 lf km0 km1 km2 lm
  obtain ⟨kc0, kc1⟩ := hxc.two
  have lc := hxc.lt
  obtain ⟨kf0, kf1⟩ := hxf.two
  have lf := hxf.lt
  obtain ⟨km0, km1, km2⟩ := hxm.three
  have lm := hxm.lt
  go_wp2_with fail
  go_ret2
  exact ⟨none, 0, rfl, ownP_nil _ _, h⟩


set_option maxHeartbeats 1000000 in
set_option maxRecDepth 100000 in
theorem atXI_pl (a b n d : Int) (w : World) (g : EcG a b) (u v r : Int) (c1 : ∀ W : World, Calls Tryd.prog 39 #[.agg #[.int .i64 n, .int .i64 d]] W (GivesPB W u v r false)) : Calls Tryd.prog 23 #[.agg #[.int .i64 a, .int .i64 b], .agg #[.int .i64 n, .int .i64 d]] w (GivesPRowOk w [] false) := by
  replace c1 := Lib.hid c1
  have h := Below.refl w.heap.size w
  have hA := below_alloc1 w (.cells #[.int .i64 a, .int .i64 b] 28)
  have hxc := Box.new w 28 #[.int .i64 a, .int .i64 b]
  replace h := Below.step h hA
  clear hA
  have hA := below_alloc1 (w.alloc (.cells #[.int .i64 a, .int .i64 b] 28)) (.cells #[.int .i64 n, .int .i64 d] 42)
  have hxf := Box.new (w.alloc (.cells #[.int .i64 a, .int .i64 b] 28)) 42 #[.int .i64 n, .int .i64 d]
  rw [show (w.alloc (.cells #[.int .i64 a, .int .i64 b] 28)).heap.size = w.heap.size + 1 from by simp] at hxf
  replace h := Below.step h hA
  replace hxc := hxc.kept hA
  clear hA
  obtain ⟨kc0, kc1⟩ := hxc.two
  have lc := hxc.lt
  obtain ⟨kf0, kf1⟩ := hxf.two
  have lf := hxf.lt
  go_enter Tryd.func23, Tryd.ntmps23
  go_wp2_with fail
  refine (c1.out _).mono ?_
  rintro e w1 ⟨rfl, hb⟩
  replace h := Below.step h hb
  replace hxc := hxc.kept hb
  replace hxf := hxf.kept hb
  clear hb kc0 kc1 lc kf0 kf1 lf
  obtain ⟨kc0, kc1⟩ := hxc.two
  have lc := hxc.lt
  obtain ⟨kf0, kf1⟩ := hxf.two
  have lf := hxf.lt
  go_wp2_with fail
  have hgm : w.heap.size + 1 < w1.heap.size := hxf.lt
  have hA := below_alloc1 w1 (.cells #[.int .i64 u, .int .i64 v, .int .i64 r] 30)
  have hxm := Box.new w1 30 #[.int .i64 u, .int .i64 v, .int .i64 r]
  replace h := Below.step h hA
  replace hxc := hxc.kept hA
  replace hxf := hxf.kept hA
  clear hA kc0 kc1 lc kf0 kf1 lf
  generalize w1.alloc (.cells #[.int .i64 u, .int .i64 v, .int .i64 r] 30) = w2 at *
  generalize w1.heap.size = gm at hxm hgm ⊢
  obtain ⟨kc0, kc1⟩ := hxc.two
  have lc := hxc.lt
  obtain ⟨kf0, kf1⟩ := hxf.two
  have lf := hxf.lt
  obtain ⟨km0, km1, km2⟩ := hxm.three
  have lm := hxm.lt
  refine (isCurveI_yes a b _ g).mono ?_
  rintro e w3 ⟨rfl, hb⟩
  replace h := Below.step h hb
  replace hxc := hxc.kept hb
  replace hxf := hxf.kept hb
  replace hxm := hxm.kept hb
  clear hb kc0 kc1 lc kf0 kf1 lf km0 km1 km2 lm
  obtain ⟨kc0, kc1⟩ := hxc.two
  have lc := hxc.lt
  obtain ⟨kf0, kf1⟩ := hxf.two
  have lf := hxf.lt
  obtain ⟨km0, km1, km2⟩ := hxm.three
  have lm := hxm.lt
  go_wp2_with fail
  go_ret2
  exact ⟨none, 0, rfl, ownP_nil _ _, h⟩


set_option maxHeartbeats 1000000 in
set_option maxRecDepth 100000 in
theorem atXI_no (a b n d : Int) (w : World) (g : EcG a b) (E V : Int) (R : Nat) (c1 : ∀ W : World, Calls Tryd.prog 39 #[.agg #[.int .i64 n, .int .i64 d]] W (GivesPB W n 0 E true)) (c2 : ∀ W : World, Calls Tryd.prog 27 #[.agg #[.int .i64 a, .int .i64 b], .int .i64 n, .int .i64 E] W (GivesI W V)) (c3 : ∀ W : World, Calls Tryd.prog 40 #[.int .i64 V] W fun e w' => e = .returned (.tuple #[.int .i64 (R : Int), .bool false]) ∧ W = w') : Calls Tryd.prog 23 #[.agg #[.int .i64 a, .int .i64 b], .agg #[.int .i64 n, .int .i64 d]] w (GivesPRowOk w [] true) := by
  have cg := fun W => isCurveI_yes a b W g
  replace cg := Lib.hid cg
  replace c1 := Lib.hid c1
  replace c2 := Lib.hid c2
  replace c3 := Lib.hid c3
  clear g
  have h := Below.refl w.heap.size w
  have hA := below_alloc1 w (.cells #[.int .i64 a, .int .i64 b] 28)
  have hxc := Box.new w 28 #[.int .i64 a, .int .i64 b]
  replace h := Below.step h hA
  clear hA
  have hA := below_alloc1 (w.alloc (.cells #[.int .i64 a, .int .i64 b] 28)) (.cells #[.int .i64 n, .int .i64 d] 42)
  have hxf := Box.new (w.alloc (.cells #[.int .i64 a, .int .i64 b] 28)) 42 #[.int .i64 n, .int .i64 d]
  rw [show (w.alloc (.cells #[.int .i64 a, .int .i64 b] 28)).heap.size = w.heap.size + 1 from by simp] at hxf
  replace h := Below.step h hA
  replace hxc := hxc.kept hA
  clear hA
  obtain ⟨kc0, kc1⟩ := hxc.two
  have lc := hxc.lt
  obtain ⟨kf0, kf1⟩ := hxf.two
  have lf := hxf.lt
  go_enter Tryd.func23, Tryd.ntmps23
  go_wp2_with fail
  refine (c1.out _).mono ?_
  rintro e w1 ⟨rfl, hb⟩
  replace h := Below.step h hb
  replace hxc := hxc.kept hb
  replace hxf := hxf.kept hb
  clear hb kc0 kc1 lc kf0 kf1 lf
  obtain ⟨kc0, kc1⟩ := hxc.two
  have lc := hxc.lt
  obtain ⟨kf0, kf1⟩ := hxf.two
  have lf := hxf.lt
  go_wp2_with fail
  have hgm : w.heap.size + 1 < w1.heap.size := hxf.lt
  have hA := below_alloc1 w1 (.cells #[.int .i64 n, .int .i64 0, .int .i64 E] 30)
  have hxm := Box.new w1 30 #[.int .i64 n, .int .i64 0, .int .i64 E]
  replace h := Below.step h hA
  replace hxc := hxc.kept hA
  replace hxf := hxf.kept hA
  clear hA kc0 kc1 lc kf0 kf1 lf
  generalize w1.alloc (.cells #[.int .i64 n, .int .i64 0, .int .i64 E] 30) = w2 at *
  generalize w1.heap.size = gm at hxm hgm ⊢
  obtain ⟨kc0, kc1⟩ := hxc.two
  have lc := hxc.lt
  obtain ⟨kf0, kf1⟩ := hxf.two
  have lf := hxf.lt
  obtain ⟨km0, km1, km2⟩ := hxm.three
  have lm := hxm.lt
  refine (cg.out _).mono ?_
  rintro e w3 ⟨rfl, hb⟩
  replace h := Below.step h hb
  replace hxc := hxc.kept hb
  replace hxf := hxf.kept hb
  replace hxm := hxm.kept hb
  clear hb kc0 kc1 lc kf0 kf1 lf km0 km1 km2 lm
  obtain ⟨kc0, kc1⟩ := hxc.two
  have lc := hxc.lt
  obtain ⟨kf0, kf1⟩ := hxf.two
  have lf := hxf.lt
  obtain ⟨km0, km1, km2⟩ := hxm.three
  have lm := hxm.lt
  go_wp2_with fail
  refine (c2.out _).mono ?_
  rintro e w4 ⟨rfl, hb⟩
  replace h := Below.step h hb
  replace hxc := hxc.kept hb
  replace hxf := hxf.kept hb
  replace hxm := hxm.kept hb
  clear hb kc0 kc1 lc kf0 kf1 lf km0 km1 km2 lm
  obtain ⟨kc0, kc1⟩ := hxc.two
  have lc := hxc.lt
  obtain ⟨kf0, kf1⟩ := hxf.two
  have lf := hxf.lt
  obtain ⟨km0, km1, km2⟩ := hxm.three
  have lm := hxm.lt
  go_wp2_with fail
  refine (c3.out _).mono ?_
  rintro e w5 ⟨rfl, rfl⟩
  go_wp2_with fail
  go_ret2
  exact ⟨none, 0, rfl, ownP_nil _ _, h⟩


set_option maxHeartbeats 1000000 in
set_option maxRecDepth 100000 in
theorem atXI_one (a b n d : Int) (w : World) (g : EcG a b) (E V : Int) (R : Nat) (c1 : ∀ W : World, Calls Tryd.prog 39 #[.agg #[.int .i64 n, .int .i64 d]] W (GivesPB W n 0 E true)) (c2 : ∀ W : World, Calls Tryd.prog 27 #[.agg #[.int .i64 a, .int .i64 b], .int .i64 n, .int .i64 E] W (GivesI W V)) (c3 : ∀ W : World, Calls Tryd.prog 40 #[.int .i64 V] W fun e w' => e = .returned (.tuple #[.int .i64 (R : Int), .bool true]) ∧ W = w') (hR : R = 0) : Calls Tryd.prog 23 #[.agg #[.int .i64 a, .int .i64 b], .agg #[.int .i64 n, .int .i64 d]] w (GivesPRowOk w [⟨n, 0, E⟩] true) := by
  subst hR
  have cg := fun W => isCurveI_yes a b W g
  replace cg := Lib.hid cg
  replace c1 := Lib.hid c1
  replace c2 := Lib.hid c2
  replace c3 := Lib.hid c3
  clear g
  have h := Below.refl w.heap.size w
  have hA := below_alloc1 w (.cells #[.int .i64 a, .int .i64 b] 28)
  have hxc := Box.new w 28 #[.int .i64 a, .int .i64 b]
  replace h := Below.step h hA
  clear hA
  have hA := below_alloc1 (w.alloc (.cells #[.int .i64 a, .int .i64 b] 28)) (.cells #[.int .i64 n, .int .i64 d] 42)
  have hxf := Box.new (w.alloc (.cells #[.int .i64 a, .int .i64 b] 28)) 42 #[.int .i64 n, .int .i64 d]
  rw [show (w.alloc (.cells #[.int .i64 a, .int .i64 b] 28)).heap.size = w.heap.size + 1 from by simp] at hxf
  replace h := Below.step h hA
  replace hxc := hxc.kept hA
  clear hA
  obtain ⟨kc0, kc1⟩ := hxc.two
  have lc := hxc.lt
  obtain ⟨kf0, kf1⟩ := hxf.two
  have lf := hxf.lt
  go_enter Tryd.func23, Tryd.ntmps23
  go_wp2_with fail
  refine (c1.out _).mono ?_
  rintro e w1 ⟨rfl, hb⟩
  replace h := Below.step h hb
  replace hxc := hxc.kept hb
  replace hxf := hxf.kept hb
  clear hb kc0 kc1 lc kf0 kf1 lf
  obtain ⟨kc0, kc1⟩ := hxc.two
  have lc := hxc.lt
  obtain ⟨kf0, kf1⟩ := hxf.two
  have lf := hxf.lt
  go_wp2_with fail
  have hgm : w.heap.size + 1 < w1.heap.size := hxf.lt
  have hA := below_alloc1 w1 (.cells #[.int .i64 n, .int .i64 0, .int .i64 E] 30)
  have hxm := Box.new w1 30 #[.int .i64 n, .int .i64 0, .int .i64 E]
  replace h := Below.step h hA
  replace hxc := hxc.kept hA
  replace hxf := hxf.kept hA
  clear hA kc0 kc1 lc kf0 kf1 lf
  generalize w1.alloc (.cells #[.int .i64 n, .int .i64 0, .int .i64 E] 30) = w2 at *
  generalize w1.heap.size = gm at hxm hgm ⊢
  obtain ⟨kc0, kc1⟩ := hxc.two
  have lc := hxc.lt
  obtain ⟨kf0, kf1⟩ := hxf.two
  have lf := hxf.lt
  obtain ⟨km0, km1, km2⟩ := hxm.three
  have lm := hxm.lt
  refine (cg.out _).mono ?_
  rintro e w3 ⟨rfl, hb⟩
  replace h := Below.step h hb
  replace hxc := hxc.kept hb
  replace hxf := hxf.kept hb
  replace hxm := hxm.kept hb
  clear hb kc0 kc1 lc kf0 kf1 lf km0 km1 km2 lm
  obtain ⟨kc0, kc1⟩ := hxc.two
  have lc := hxc.lt
  obtain ⟨kf0, kf1⟩ := hxf.two
  have lf := hxf.lt
  obtain ⟨km0, km1, km2⟩ := hxm.three
  have lm := hxm.lt
  go_wp2_with fail
  refine (c2.out _).mono ?_
  rintro e w4 ⟨rfl, hb⟩
  replace h := Below.step h hb
  replace hxc := hxc.kept hb
  replace hxf := hxf.kept hb
  replace hxm := hxm.kept hb
  clear hb kc0 kc1 lc kf0 kf1 lf km0 km1 km2 lm
  obtain ⟨kc0, kc1⟩ := hxc.two
  have lc := hxc.lt
  obtain ⟨kf0, kf1⟩ := hxf.two
  have lf := hxf.lt
  obtain ⟨km0, km1, km2⟩ := hxm.three
  have lm := hxm.lt
  go_wp2_with fail
  have fm0 := hxm.free 0
  have fm1 := hxm.free 1
  have fm2 := hxm.free 2
  obtain ⟨t0, t1, t2⟩ := (hxm.set 1 (.int .i64 0)).three
  have hsz := h.size
  have hbs : Below w.heap.size w (w4.setCell ⟨gm, 1, none⟩ (.int .i64 0)) := h.setCell (show w.heap.size ≤ gm by omega) _
  have hown : OwnP ((w4.setCell ⟨gm, 1, none⟩ (.int .i64 0)).alloc (.cells #[.int .i64 n, .int .i64 0, .int .i64 E] 30)) w.heap.size (.slice (some ⟨w4.heap.size, 0, none⟩) 1 1) [⟨n, 0, E⟩] := by have := ownP_lit1 (w4.setCell ⟨gm, 1, none⟩ (.int .i64 0)) ⟨n, 0, E⟩ (base := w.heap.size) (by rw [show (w4.setCell ⟨gm, 1, none⟩ (.int .i64 0)).heap.size = w4.heap.size from by simp]; exact hsz); rwa [show (w4.setCell ⟨gm, 1, none⟩ (.int .i64 0)).heap.size = w4.heap.size from by simp] at this
  refine (c3.out _).mono ?_
  rintro e w5 ⟨rfl, rfl⟩
  go_wp2_with fail
  go_ret2
  exact ⟨_, 1, rfl, hown, Below.step hbs (below_alloc1 _ _)⟩


set_option maxHeartbeats 4000000 in
set_option maxRecDepth 100000 in
theorem atXI_two (a b n d : Int) (w : World) (g : EcG a b) (E V : Int) (R : Nat) (c1 : ∀ W : World, Calls Tryd.prog 39 #[.agg #[.int .i64 n, .int .i64 d]] W (GivesPB W n 0 E true)) (c2 : ∀ W : World, Calls Tryd.prog 27 #[.agg #[.int .i64 a, .int .i64 b], .int .i64 n, .int .i64 E] W (GivesI W V)) (c3 : ∀ W : World, Calls Tryd.prog 40 #[.int .i64 V] W fun e w' => e = .returned (.tuple #[.int .i64 (R : Int), .bool true]) ∧ W = w') (hR : 1 ≤ R) (hRb : R ≤ 4000000) : Calls Tryd.prog 23 #[.agg #[.int .i64 a, .int .i64 b], .agg #[.int .i64 n, .int .i64 d]] w (GivesPRowOk w [⟨n, -(R : Int), E⟩, ⟨n, R, E⟩] true) := by
  have cg := fun W => isCurveI_yes a b W g
  replace cg := Lib.hid cg
  replace c1 := Lib.hid c1
  replace c2 := Lib.hid c2
  replace c3 := Lib.hid c3
  clear g
  have e0 : ((R : Int) == 0) = false := by simp; omega
  have hR2 : (R : Int) ≤ 4000000 := by omega
  have h := Below.refl w.heap.size w
  have hA := below_alloc1 w (.cells #[.int .i64 a, .int .i64 b] 28)
  have hxc := Box.new w 28 #[.int .i64 a, .int .i64 b]
  replace h := Below.step h hA
  clear hA
  have hA := below_alloc1 (w.alloc (.cells #[.int .i64 a, .int .i64 b] 28)) (.cells #[.int .i64 n, .int .i64 d] 42)
  have hxf := Box.new (w.alloc (.cells #[.int .i64 a, .int .i64 b] 28)) 42 #[.int .i64 n, .int .i64 d]
  rw [show (w.alloc (.cells #[.int .i64 a, .int .i64 b] 28)).heap.size = w.heap.size + 1 from by simp] at hxf
  replace h := Below.step h hA
  replace hxc := hxc.kept hA
  clear hA
  obtain ⟨kc0, kc1⟩ := hxc.two
  have lc := hxc.lt
  obtain ⟨kf0, kf1⟩ := hxf.two
  have lf := hxf.lt
  go_enter Tryd.func23, Tryd.ntmps23
  go_wp2_with fail
  refine (c1.out _).mono ?_
  rintro e w1 ⟨rfl, hb⟩
  replace h := Below.step h hb
  replace hxc := hxc.kept hb
  replace hxf := hxf.kept hb
  clear hb kc0 kc1 lc kf0 kf1 lf
  obtain ⟨kc0, kc1⟩ := hxc.two
  have lc := hxc.lt
  obtain ⟨kf0, kf1⟩ := hxf.two
  have lf := hxf.lt
  go_wp2_with fail
  have hgm : w.heap.size + 1 < w1.heap.size := hxf.lt
  have hA := below_alloc1 w1 (.cells #[.int .i64 n, .int .i64 0, .int .i64 E] 30)
  have hxm := Box.new w1 30 #[.int .i64 n, .int .i64 0, .int .i64 E]
  replace h := Below.step h hA
  replace hxc := hxc.kept hA
  replace hxf := hxf.kept hA
  clear hA kc0 kc1 lc kf0 kf1 lf
  generalize w1.alloc (.cells #[.int .i64 n, .int .i64 0, .int .i64 E] 30) = w2 at *
  generalize w1.heap.size = gm at hxm hgm ⊢
  obtain ⟨kc0, kc1⟩ := hxc.two
  have lc := hxc.lt
  obtain ⟨kf0, kf1⟩ := hxf.two
  have lf := hxf.lt
  obtain ⟨km0, km1, km2⟩ := hxm.three
  have lm := hxm.lt
  refine (cg.out _).mono ?_
  rintro e w3 ⟨rfl, hb⟩
  replace h := Below.step h hb
  replace hxc := hxc.kept hb
  replace hxf := hxf.kept hb
  replace hxm := hxm.kept hb
  clear hb kc0 kc1 lc kf0 kf1 lf km0 km1 km2 lm
  obtain ⟨kc0, kc1⟩ := hxc.two
  have lc := hxc.lt
  obtain ⟨kf0, kf1⟩ := hxf.two
  have lf := hxf.lt
  obtain ⟨km0, km1, km2⟩ := hxm.three
  have lm := hxm.lt
  go_wp2_with fail
  refine (c2.out _).mono ?_
  rintro e w4 ⟨rfl, hb⟩
  replace h := Below.step h hb
  replace hxc := hxc.kept hb
  replace hxf := hxf.kept hb
  replace hxm := hxm.kept hb
  clear hb kc0 kc1 lc kf0 kf1 lf km0 km1 km2 lm
  obtain ⟨kc0, kc1⟩ := hxc.two
  have lc := hxc.lt
  obtain ⟨kf0, kf1⟩ := hxf.two
  have lf := hxf.lt
  obtain ⟨km0, km1, km2⟩ := hxm.three
  have lm := hxm.lt
  go_wp2_with fail
  have fm1 := hxm.free 1
  have hS : Box (w4.setCell ⟨gm, 1, none⟩ (.int .i64 (R : Int))) gm 30 #[.int .i64 n, .int .i64 (R : Int), .int .i64 E] := hxm.set 1 (.int .i64 (R : Int))
  have hsz := h.size
  have hbs : Below w.heap.size w (w4.setCell ⟨gm, 1, none⟩ (.int .i64 (R : Int))) := h.setCell (show w.heap.size ≤ gm by omega) _
  have hgl : w.heap.size ≤ (w4.setCell ⟨gm, 1, none⟩ (.int .i64 (R : Int))).heap.size := hbs.size
  refine (c3.out _).mono ?_
  rintro e wq ⟨rfl, rfl⟩
  go_upto_region 10 with fail
  clear h hxc hxf hxm fm1 hsz kc0 kc1 lc kf0 kf1 lf km0 km1 km2 lm
  generalize (w4.setCell ⟨gm, 1, none⟩ (.int .i64 (R : Int))) = wq at *
  have KM : ∀ (W : World), Below wq.heap.size wq W → (W.cell? ⟨gm, 0, none⟩ = some (.int .i64 n) ∧ W.cell? ⟨gm, 1, none⟩ = some (.int .i64 (R : Int)) ∧ W.cell? ⟨gm, 2, none⟩ = some (.int .i64 E) ∧ Below wq.heap.size wq W) := fun W hW => ⟨(hS.kept hW).three.1, (hS.kept hW).three.2.1, (hS.kept hW).three.2.2, hW⟩
  have KC : ∀ (W W' : World), Below W.heap.size W W' → (W.cell? ⟨gm, 0, none⟩ = some (.int .i64 n) ∧ W.cell? ⟨gm, 1, none⟩ = some (.int .i64 (R : Int)) ∧ W.cell? ⟨gm, 2, none⟩ = some (.int .i64 E) ∧ Below wq.heap.size wq W) → (W'.cell? ⟨gm, 0, none⟩ = some (.int .i64 n) ∧ W'.cell? ⟨gm, 1, none⟩ = some (.int .i64 (R : Int)) ∧ W'.cell? ⟨gm, 2, none⟩ = some (.int .i64 E) ∧ Below wq.heap.size wq W') := fun W W' hb ⟨_, _, _, hW⟩ => KM _ (Below.step hW hb)
  have KA : ∀ (W : World) (o : Obj), (W.cell? ⟨gm, 0, none⟩ = some (.int .i64 n) ∧ W.cell? ⟨gm, 1, none⟩ = some (.int .i64 (R : Int)) ∧ W.cell? ⟨gm, 2, none⟩ = some (.int .i64 E) ∧ Below wq.heap.size wq W) → ((W.alloc o).cell? ⟨gm, 0, none⟩ = some (.int .i64 n) ∧ (W.alloc o).cell? ⟨gm, 1, none⟩ = some (.int .i64 (R : Int)) ∧ (W.alloc o).cell? ⟨gm, 2, none⟩ = some (.int .i64 E) ∧ Below wq.heap.size wq (W.alloc o)) := fun W o ⟨_, _, _, hW⟩ => KM _ (Below.step hW (below_alloc1 _ _))
  have KD : ∀ (W : World), (W.cell? ⟨gm, 0, none⟩ = some (.int .i64 n) ∧ W.cell? ⟨gm, 1, none⟩ = some (.int .i64 (R : Int)) ∧ W.cell? ⟨gm, 2, none⟩ = some (.int .i64 E) ∧ Below wq.heap.size wq W) → (W.drew.cell? ⟨gm, 0, none⟩ = some (.int .i64 n) ∧ W.drew.cell? ⟨gm, 1, none⟩ = some (.int .i64 (R : Int)) ∧ W.drew.cell? ⟨gm, 2, none⟩ = some (.int .i64 E) ∧ Below wq.heap.size wq W.drew) := fun W ⟨_, _, _, hW⟩ => KM _ (Below.drewN' hW 1)
  have KB : ∀ (W : World), (W.cell? ⟨gm, 0, none⟩ = some (.int .i64 n) ∧ W.cell? ⟨gm, 1, none⟩ = some (.int .i64 (R : Int)) ∧ W.cell? ⟨gm, 2, none⟩ = some (.int .i64 E) ∧ Below wq.heap.size wq W) → Below wq.heap.size wq W := fun W ⟨_, _, _, hW⟩ => hW
  have KM0 := KM wq.drew ⟨rfl, rfl, rfl, Nat.le_refl _, fun _ _ => rfl⟩
  have KM00 := KM _ (Below.refl _ _)
  have co := fun W => oppI_any ⟨n, R, E⟩ W (by dsimp only; omega)
  have lgm := hS.lt
  replace KC := Lib.hid KC
  replace KA := Lib.hid KA
  replace KD := Lib.hid KD
  replace KB := Lib.hid KB
  replace co := Lib.hid co
  clear KM hS
  go_cut [4, 5] (fun s4 s5 wx => ∃ (g : Nat), s4 = .slice (some ⟨g, 0, none⟩) 2 2 ∧ s5 = .bool true ∧ OwnP wx wq.heap.size (.slice (some ⟨g, 0, none⟩) 2 2) [⟨n, -R, E⟩, ⟨n, R, E⟩] ∧ Below wq.heap.size wq wx)
  case first =>
    go_region_held3 (fun w' => w'.cell? ⟨gm, 0, none⟩ = some (.int .i64 n) ∧ w'.cell? ⟨gm, 1, none⟩ = some (.int .i64 (R : Int)) ∧ w'.cell? ⟨gm, 2, none⟩ = some (.int .i64 E) ∧ Below wq.heap.size wq w') ((first | (with_reducible assumption) | ((with_reducible refine KA.out _ _ ?_); (with_reducible assumption)) | ((with_reducible refine KC.out _ _ ?_ ?_); (with_reducible assumption); (with_reducible assumption)) | ((with_reducible refine KD.out _ ?_); (first | (with_reducible assumption) | ((with_reducible refine KA.out _ _ ?_); (with_reducible assumption)) | ((with_reducible refine KC.out _ _ ?_ ?_); (with_reducible assumption); (with_reducible assumption))))))
      (first
        | (go_at_call 41; (with_reducible refine (co.out _).mono ?_); rintro e wC ⟨rfl, hbC⟩; have hSC : wC.cell? ⟨gm, 0, none⟩ = some (.int .i64 n) ∧ wC.cell? ⟨gm, 1, none⟩ = some (.int .i64 (R : Int)) ∧ wC.cell? ⟨gm, 2, none⟩ = some (.int .i64 E) ∧ Below wq.heap.size wq wC := KC.out _ _ hbC (by assumption); have hzC := (KB.out _ hSC).size))
    all_goals (go_wp2_with fail; go_meet)
    all_goals refine ⟨_, rfl, rfl, ?_, KB.out _ ?_⟩
    all_goals (first | (with_reducible assumption) | ((with_reducible refine KA.out _ _ ?_); (with_reducible assumption)) | ((with_reducible refine KD.out _ ?_); (first | (with_reducible assumption) | ((with_reducible refine KA.out _ _ ?_); (with_reducible assumption)))) | exact ownP_lit2 _ ⟨n, -R, E⟩ ⟨n, R, E⟩ hzC | exact (ownP_lit2 _ ⟨n, -R, E⟩ ⟨n, R, E⟩ hzC).kept ⟨rfl, rfl, rfl, Nat.le_refl _, fun _ _ => rfl⟩)
  obtain ⟨g, rfl, rfl, hown, hb⟩ := hcut
  go_wp2_with fail
  go_ret2
  exact ⟨_, 2, rfl, hown.le hgl, Below.step hbs hb⟩

end Go.Proofs.YtokhadhfjbecmaaDoor
