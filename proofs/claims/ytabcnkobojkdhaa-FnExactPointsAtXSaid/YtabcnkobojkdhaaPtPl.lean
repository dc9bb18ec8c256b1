/- The program's placeAt (written by wip/gen/ptc2.py). -/
import Derived.Test.YtabcnkobojkdhaaPtI
import Derived.Test.YtabcnkobojkdhaaPtRoot
import Derived.Deep.RegionHeld3
import Derived.Deep.DeepCutAuto
import Derived.BigQuiet
namespace Go.Proofs.Ytabcnkobojkdhaa
open Go.RowKit Go.Joins

set_option maxHeartbeats 1000000 in
set_option maxRecDepth 100000 in
theorem placeAt_sq (n d : Int) (R : Nat) (w : World) (hR : IRt R d) (hs : ¬ (R : Int) * R = d) : Calls Try.prog 35 #[.agg #[.int .i64 n, .int .i64 d]] w (GivesPB w 0 0 0 false) := by
  have c1 := fun W => exactRoot_any d W R hR _ (show ((R : Int) * R == d) = false by simpa using hs)
  replace c1 := Lib.hid c1
  clear hs hR
  have h := Below.refl w.heap.size w
  have hA := below_alloc1 w (.cells #[.int .i64 n, .int .i64 d] 40)
  have hxf := Box.new w 40 #[.int .i64 n, .int .i64 d]
  replace h := Below.step h hA
  clear hA
  have hA := below_alloc1 (w.alloc (.cells #[.int .i64 n, .int .i64 d] 40)) (.cells #[.int .i64 0, .int .i64 0, .int .i64 0] 29)
  have hxr := Box.new (w.alloc (.cells #[.int .i64 n, .int .i64 d] 40)) 29 #[.int .i64 0, .int .i64 0, .int .i64 0]
  rw [show (w.alloc (.cells #[.int .i64 n, .int .i64 d] 40)).heap.size = w.heap.size + 1 from by simp] at hxr
  replace h := Below.step h hA
  replace hxf := hxf.kept hA
  clear hA
  obtain ⟨kf0, kf1⟩ := hxf.two
  have lf := hxf.lt
  obtain ⟨kr0, kr1, kr2⟩ := hxr.three
  have lr := hxr.lt
  go_enter Try.func35, Try.ntmps35
  go_wp2_with fail
  refine (c1.out _).mono ?_
  rintro e w1 ⟨rfl, rfl⟩
  go_wp2_with fail
  refine bodyPost_ret (v := .tuple #[.agg #[.int .i64 0, .int .i64 0, .int .i64 0], .bool false]) (by simp [results, Try.results35, go_sem]) (by rfl) ⟨by rfl, ?_⟩
  exact Below.step (below_alloc1 _ _) (below_alloc1 _ _)


set_option maxHeartbeats 1000000 in
set_option maxRecDepth 100000 in
theorem placeAt_pl (n d : Int) (R : Nat) (w : World) (hR : IRt R d) (hs : (R : Int) * R = d) (hp : ¬ Plc n R) : Calls Try.prog 35 #[.agg #[.int .i64 n, .int .i64 d]] w (GivesPB w 0 0 0 false) := by
  have c1 := fun W => exactRoot_any d W R hR _ (show ((R : Int) * R == d) = true by simpa using hs)
  replace c1 := Lib.hid c1
  have c2 := fun W => place_any n R W
  rw [decide_eq_false hp] at c2
  replace c2 := Lib.hid c2
  clear hp
  clear hs hR
  have h := Below.refl w.heap.size w
  have hA := below_alloc1 w (.cells #[.int .i64 n, .int .i64 d] 40)
  have hxf := Box.new w 40 #[.int .i64 n, .int .i64 d]
  replace h := Below.step h hA
  clear hA
  have hA := below_alloc1 (w.alloc (.cells #[.int .i64 n, .int .i64 d] 40)) (.cells #[.int .i64 0, .int .i64 0, .int .i64 0] 29)
  have hxr := Box.new (w.alloc (.cells #[.int .i64 n, .int .i64 d] 40)) 29 #[.int .i64 0, .int .i64 0, .int .i64 0]
  rw [show (w.alloc (.cells #[.int .i64 n, .int .i64 d] 40)).heap.size = w.heap.size + 1 from by simp] at hxr
  replace h := Below.step h hA
  replace hxf := hxf.kept hA
  clear hA
  obtain ⟨kf0, kf1⟩ := hxf.two
  have lf := hxf.lt
  obtain ⟨kr0, kr1, kr2⟩ := hxr.three
  have lr := hxr.lt
  go_enter Try.func35, Try.ntmps35
  go_wp2_with fail
  refine (c1.out _).mono ?_
  rintro e w1 ⟨rfl, rfl⟩
  go_wp2_with fail
  refine (c2.out _).mono ?_
  rintro e w2 ⟨rfl, hb⟩
  replace h := Below.step h hb
  replace hxf := hxf.kept hb
  replace hxr := hxr.kept hb
  clear hb kf0 kf1 lf kr0 kr1 kr2 lr
  obtain ⟨kf0, kf1⟩ := hxf.two
  have lf := hxf.lt
  obtain ⟨kr0, kr1, kr2⟩ := hxr.three
  have lr := hxr.lt
  have fr0 := hxr.free 0
  have fr1 := hxr.free 1
  have fr2 := hxr.free 2
  obtain ⟨sr0, sr1, sr2⟩ := (((hxr.set 0 (.int .i64 0)).set 1 (.int .i64 0)).set 2 (.int .i64 0)).three
  go_wp2_with fail
  refine bodyPost_ret (v := .tuple #[.agg #[.int .i64 0, .int .i64 0, .int .i64 0], .bool false]) (by simp [results, Try.results35, go_sem, sr0, sr1, sr2]) (by rfl) ⟨by rfl, ?_⟩
  exact below_sets3 h (by omega) _ _ _


set_option maxHeartbeats 1000000 in
set_option maxRecDepth 100000 in
theorem placeAt_yes (n d : Int) (R : Nat) (w : World) (hR : IRt R d) (hs : (R : Int) * R = d) (hp : Plc n R) : Calls Try.prog 35 #[.agg #[.int .i64 n, .int .i64 d]] w (GivesPB w n 0 R true) := by
  have c1 := fun W => exactRoot_any d W R hR _ (show ((R : Int) * R == d) = true by simpa using hs)
  replace c1 := Lib.hid c1
  have c2 := fun W => place_any n R W
  rw [decide_eq_true hp] at c2
  replace c2 := Lib.hid c2
  clear hp
  clear hs hR
  have h := Below.refl w.heap.size w
  have hA := below_alloc1 w (.cells #[.int .i64 n, .int .i64 d] 40)
  have hxf := Box.new w 40 #[.int .i64 n, .int .i64 d]
  replace h := Below.step h hA
  clear hA
  have hA := below_alloc1 (w.alloc (.cells #[.int .i64 n, .int .i64 d] 40)) (.cells #[.int .i64 0, .int .i64 0, .int .i64 0] 29)
  have hxr := Box.new (w.alloc (.cells #[.int .i64 n, .int .i64 d] 40)) 29 #[.int .i64 0, .int .i64 0, .int .i64 0]
  rw [show (w.alloc (.cells #[.int .i64 n, .int .i64 d] 40)).heap.size = w.heap.size + 1 from by simp] at hxr
  replace h := Below.step h hA
  replace hxf := hxf.kept hA
  clear hA
  obtain ⟨kf0, kf1⟩ := hxf.two
  have lf := hxf.lt
  obtain ⟨kr0, kr1, kr2⟩ := hxr.three
  have lr := hxr.lt
  go_enter Try.func35, Try.ntmps35
  go_wp2_with fail
  refine (c1.out _).mono ?_
  rintro e w1 ⟨rfl, rfl⟩
  go_wp2_with fail
  refine (c2.out _).mono ?_
  rintro e w2 ⟨rfl, hb⟩
  replace h := Below.step h hb
  replace hxf := hxf.kept hb
  replace hxr := hxr.kept hb
  clear hb kf0 kf1 lf kr0 kr1 kr2 lr
  obtain ⟨kf0, kf1⟩ := hxf.two
  have lf := hxf.lt
  obtain ⟨kr0, kr1, kr2⟩ := hxr.three
  have lr := hxr.lt
  have fr0 := hxr.free 0
  have fr1 := hxr.free 1
  have fr2 := hxr.free 2
  obtain ⟨sr0, sr1, sr2⟩ := (((hxr.set 0 (.int .i64 n)).set 1 (.int .i64 0)).set 2 (.int .i64 R)).three
  go_wp2_with fail
  refine bodyPost_ret (v := .tuple #[.agg #[.int .i64 n, .int .i64 0, .int .i64 R], .bool true]) (by simp [results, Try.results35, go_sem, sr0, sr1, sr2]) (by rfl) ⟨by rfl, ?_⟩
  exact below_sets3 h (by omega) _ _ _

end Go.Proofs.Ytabcnkobojkdhaa
