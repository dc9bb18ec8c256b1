/- The program's points of lists (written by wip/gen/fmi6.py). -/
import Derived.Test.YtbgoiflkpefckaaFmI5
import Derived.Test.YtbgoiflkpefckaaFmG
import Derived.Test.YtbgoiflkpefckaaFmS2
import Derived.Deep.RegionHeld3
import Derived.Deep.DeepCutAuto
import Derived.BigQuiet
import Derived.BigGuard
import Derived.StillTailTactics
namespace Go.Proofs.Ytbgoiflkpefckaa
open Go.RowKit Go.Joins

set_option maxHeartbeats 1000000 in
set_option maxRecDepth 100000 in
theorem pof_0 (a b : Int) (p : Nat) (R : Option Addr) (c : Nat) (w : World) : Calls Try.prog 55 #[.agg #[.int .i64 (rs p a : Int), .int .i64 (rs p b : Int), .int .i64 (p : Int)], .slice R 0 c] w (GivesPB w 0 0 0 true) := by
  have h := Below.refl w.heap.size w
  have hA := below_alloc1 w (.cells #[.int .i64 (rs p a : Int), .int .i64 (rs p b : Int), .int .i64 (p : Int)] 62)
  have hxf := Box.new w 62 #[.int .i64 (rs p a : Int), .int .i64 (rs p b : Int), .int .i64 (p : Int)]
  replace h := Below.step h hA
  clear hA
  have hA := below_alloc1 (w.alloc (.cells #[.int .i64 (rs p a : Int), .int .i64 (rs p b : Int), .int .i64 (p : Int)] 62)) (.cells #[.int .i64 0, .int .i64 0, .int .i64 0] 70)
  have hxr := Box.new (w.alloc (.cells #[.int .i64 (rs p a : Int), .int .i64 (rs p b : Int), .int .i64 (p : Int)] 62)) 70 #[.int .i64 0, .int .i64 0, .int .i64 0]
  rw [show (w.alloc (.cells #[.int .i64 (rs p a : Int), .int .i64 (rs p b : Int), .int .i64 (p : Int)] 62)).heap.size = w.heap.size + 1 from by simp] at hxr
  replace h := Below.step h hA
  replace hxf := hxf.kept hA
  clear hA
  obtain ⟨kf0, kf1, kf2⟩ := hxf.three
  have lf := hxf.lt
  obtain ⟨kr0, kr1, kr2⟩ := hxr.three
  have lr := hxr.lt
  go_enter Try.func55, Try.ntmps55
  go_wp2_with fail
  refine bodyPost_ret (v := .tuple #[.agg #[.int .i64 0, .int .i64 0, .int .i64 0], .bool true]) (by simp [results, Try.results55, go_sem]) (by rfl) ⟨by rfl, ?_⟩
  exact h


set_option maxHeartbeats 1000000 in
set_option maxRecDepth 100000 in
theorem pof_len (a b : Int) (p n : Nat) (R : Option Addr) (c : Nat) (w : World) (h0 : n ≠ 0) (h2 : n ≠ 2) : Calls Try.prog 55 #[.agg #[.int .i64 (rs p a : Int), .int .i64 (rs p b : Int), .int .i64 (p : Int)], .slice R n c] w (GivesPB w 0 0 0 false) := by
  have e0 : ((n : Int) == 0) = false := beq_eq_false_iff_ne.2 (by omega)
  have e2 : ((n : Int) != 2) = true := by rw [bne_iff_ne]; omega
  clear h0 h2
  have h := Below.refl w.heap.size w
  have hA := below_alloc1 w (.cells #[.int .i64 (rs p a : Int), .int .i64 (rs p b : Int), .int .i64 (p : Int)] 62)
  have hxf := Box.new w 62 #[.int .i64 (rs p a : Int), .int .i64 (rs p b : Int), .int .i64 (p : Int)]
  replace h := Below.step h hA
  clear hA
  have hA := below_alloc1 (w.alloc (.cells #[.int .i64 (rs p a : Int), .int .i64 (rs p b : Int), .int .i64 (p : Int)] 62)) (.cells #[.int .i64 0, .int .i64 0, .int .i64 0] 70)
  have hxr := Box.new (w.alloc (.cells #[.int .i64 (rs p a : Int), .int .i64 (rs p b : Int), .int .i64 (p : Int)] 62)) 70 #[.int .i64 0, .int .i64 0, .int .i64 0]
  rw [show (w.alloc (.cells #[.int .i64 (rs p a : Int), .int .i64 (rs p b : Int), .int .i64 (p : Int)] 62)).heap.size = w.heap.size + 1 from by simp] at hxr
  replace h := Below.step h hA
  replace hxf := hxf.kept hA
  clear hA
  obtain ⟨kf0, kf1, kf2⟩ := hxf.three
  have lf := hxf.lt
  obtain ⟨kr0, kr1, kr2⟩ := hxr.three
  have lr := hxr.lt
  go_enter Try.func55, Try.ntmps55
  go_wp2_with fail
  go_quiet (fail)
  generalize ((w.alloc (.cells #[.int .i64 (rs p a : Int), .int .i64 (rs p b : Int), .int .i64 (p : Int)] 62)).alloc (.cells #[.int .i64 0, .int .i64 0, .int .i64 0] 70)) = w1 at *
  have hb := below_dr w1 nq
  generalize World.drewN w1 nq = w2 at *
  replace h := Below.step h hb
  replace hxf := hxf.kept hb
  replace hxr := hxr.kept hb
  clear hb kf0 kf1 kf2 lf kr0 kr1 kr2 lr
  obtain ⟨kf0, kf1, kf2⟩ := hxf.three
  have lf := hxf.lt
  obtain ⟨kr0, kr1, kr2⟩ := hxr.three
  have lr := hxr.lt
  have fr0 := hxr.free 0
  have fr1 := hxr.free 1
  have fr2 := hxr.free 2
  obtain ⟨sr0, sr1, sr2⟩ := (((hxr.set 0 (.int .i64 0)).set 1 (.int .i64 0)).set 2 (.int .i64 0)).three
  go_wp2_with fail
  refine bodyPost_ret (v := .tuple #[.agg #[.int .i64 0, .int .i64 0, .int .i64 0], .bool false]) (by simp [results, Try.results55, go_sem, sr0, sr1, sr2]) (by rfl) ⟨by rfl, ?_⟩
  exact below_sets3 h (by omega) _ _ _


set_option maxHeartbeats 1000000 in
set_option maxRecDepth 100000 in
theorem pof_mn (a b : Int) (p rb ro c : Nat) (x y : Int) (w : World) (hrb : rb < w.heap.size) (r0 : w.cell? ⟨rb, ro, none⟩ = some (.int .i64 x)) (r1 : w.cell? ⟨rb, ro + 1, none⟩ = some (.int .i64 y)) (d1 : mn2 x y < 0) : Calls Try.prog 55 #[.agg #[.int .i64 (rs p a : Int), .int .i64 (rs p b : Int), .int .i64 (p : Int)], .slice (some ⟨rb, ro, none⟩) 2 c] w (GivesPB w 0 0 0 false) := by
  have hrr : ∀ W, Below w.heap.size w W → W.cell? ⟨rb, ro, none⟩ = some (.int .i64 x) ∧ W.cell? ⟨rb, ro + 1, none⟩ = some (.int .i64 y) := fun W hW => ⟨(hW.cell (p := ⟨rb, ro, none⟩) hrb).trans r0, (hW.cell (p := ⟨rb, ro + 1, none⟩) hrb).trans r1⟩
  replace hrr := Lib.hid hrr
  clear r0 r1
  have h := Below.refl w.heap.size w
  have hA := below_alloc1 w (.cells #[.int .i64 (rs p a : Int), .int .i64 (rs p b : Int), .int .i64 (p : Int)] 62)
  have hxf := Box.new w 62 #[.int .i64 (rs p a : Int), .int .i64 (rs p b : Int), .int .i64 (p : Int)]
  replace h := Below.step h hA
  clear hA
  have hA := below_alloc1 (w.alloc (.cells #[.int .i64 (rs p a : Int), .int .i64 (rs p b : Int), .int .i64 (p : Int)] 62)) (.cells #[.int .i64 0, .int .i64 0, .int .i64 0] 70)
  have hxr := Box.new (w.alloc (.cells #[.int .i64 (rs p a : Int), .int .i64 (rs p b : Int), .int .i64 (p : Int)] 62)) 70 #[.int .i64 0, .int .i64 0, .int .i64 0]
  rw [show (w.alloc (.cells #[.int .i64 (rs p a : Int), .int .i64 (rs p b : Int), .int .i64 (p : Int)] 62)).heap.size = w.heap.size + 1 from by simp] at hxr
  replace h := Below.step h hA
  replace hxf := hxf.kept hA
  clear hA
  obtain ⟨kf0, kf1, kf2⟩ := hxf.three
  have lf := hxf.lt
  obtain ⟨kr0, kr1, kr2⟩ := hxr.three
  have lr := hxr.lt
  obtain ⟨r0, r1⟩ := hrr.out _ h
  go_enter Try.func55, Try.ntmps55
  go_wp2_with fail
  go_quiet (fail)
  generalize ((w.alloc (.cells #[.int .i64 (rs p a : Int), .int .i64 (rs p b : Int), .int .i64 (p : Int)] 62)).alloc (.cells #[.int .i64 0, .int .i64 0, .int .i64 0] 70)) = w1 at *
  have hb := below_dr w1 nq
  generalize World.drewN w1 nq = w2 at *
  replace h := Below.step h hb
  replace hxf := hxf.kept hb
  replace hxr := hxr.kept hb
  clear hb kf0 kf1 kf2 lf kr0 kr1 kr2 lr r0 r1
  obtain ⟨kf0, kf1, kf2⟩ := hxf.three
  have lf := hxf.lt
  obtain ⟨kr0, kr1, kr2⟩ := hxr.three
  have lr := hxr.lt
  obtain ⟨r0, r1⟩ := hrr.out _ h
  have fr0 := hxr.free 0
  have fr1 := hxr.free 1
  have fr2 := hxr.free 2
  obtain ⟨sr0, sr1, sr2⟩ := (((hxr.set 0 (.int .i64 0)).set 1 (.int .i64 0)).set 2 (.int .i64 0)).three
  go_wp2_with fail
  refine bodyPost_ret (v := .tuple #[.agg #[.int .i64 0, .int .i64 0, .int .i64 0], .bool false]) (by simp [results, Try.results55, go_sem, sr0, sr1, sr2]) (by rfl) ⟨by rfl, ?_⟩
  exact below_sets3 h (by omega) _ _ _


set_option maxHeartbeats 1000000 in
set_option maxRecDepth 100000 in
theorem pof_mx (a b : Int) (p rb ro c : Nat) (x y : Int) (w : World) (hrb : rb < w.heap.size) (r0 : w.cell? ⟨rb, ro, none⟩ = some (.int .i64 x)) (r1 : w.cell? ⟨rb, ro + 1, none⟩ = some (.int .i64 y)) (d1 : ¬ mn2 x y < 0) (d2 : (p : Int) ≤ mx2 x y) : Calls Try.prog 55 #[.agg #[.int .i64 (rs p a : Int), .int .i64 (rs p b : Int), .int .i64 (p : Int)], .slice (some ⟨rb, ro, none⟩) 2 c] w (GivesPB w 0 0 0 false) := by
  have hrr : ∀ W, Below w.heap.size w W → W.cell? ⟨rb, ro, none⟩ = some (.int .i64 x) ∧ W.cell? ⟨rb, ro + 1, none⟩ = some (.int .i64 y) := fun W hW => ⟨(hW.cell (p := ⟨rb, ro, none⟩) hrb).trans r0, (hW.cell (p := ⟨rb, ro + 1, none⟩) hrb).trans r1⟩
  replace hrr := Lib.hid hrr
  clear r0 r1
  have h := Below.refl w.heap.size w
  have hA := below_alloc1 w (.cells #[.int .i64 (rs p a : Int), .int .i64 (rs p b : Int), .int .i64 (p : Int)] 62)
  have hxf := Box.new w 62 #[.int .i64 (rs p a : Int), .int .i64 (rs p b : Int), .int .i64 (p : Int)]
  replace h := Below.step h hA
  clear hA
  have hA := below_alloc1 (w.alloc (.cells #[.int .i64 (rs p a : Int), .int .i64 (rs p b : Int), .int .i64 (p : Int)] 62)) (.cells #[.int .i64 0, .int .i64 0, .int .i64 0] 70)
  have hxr := Box.new (w.alloc (.cells #[.int .i64 (rs p a : Int), .int .i64 (rs p b : Int), .int .i64 (p : Int)] 62)) 70 #[.int .i64 0, .int .i64 0, .int .i64 0]
  rw [show (w.alloc (.cells #[.int .i64 (rs p a : Int), .int .i64 (rs p b : Int), .int .i64 (p : Int)] 62)).heap.size = w.heap.size + 1 from by simp] at hxr
  replace h := Below.step h hA
  replace hxf := hxf.kept hA
  clear hA
  obtain ⟨kf0, kf1, kf2⟩ := hxf.three
  have lf := hxf.lt
  obtain ⟨kr0, kr1, kr2⟩ := hxr.three
  have lr := hxr.lt
  obtain ⟨r0, r1⟩ := hrr.out _ h
  go_enter Try.func55, Try.ntmps55
  go_wp2_with fail
  go_quiet (fail)
  generalize ((w.alloc (.cells #[.int .i64 (rs p a : Int), .int .i64 (rs p b : Int), .int .i64 (p : Int)] 62)).alloc (.cells #[.int .i64 0, .int .i64 0, .int .i64 0] 70)) = w1 at *
  have hb := below_dr w1 nq
  generalize World.drewN w1 nq = w2 at *
  replace h := Below.step h hb
  replace hxf := hxf.kept hb
  replace hxr := hxr.kept hb
  clear hb kf0 kf1 kf2 lf kr0 kr1 kr2 lr r0 r1
  obtain ⟨kf0, kf1, kf2⟩ := hxf.three
  have lf := hxf.lt
  obtain ⟨kr0, kr1, kr2⟩ := hxr.three
  have lr := hxr.lt
  obtain ⟨r0, r1⟩ := hrr.out _ h
  have fr0 := hxr.free 0
  have fr1 := hxr.free 1
  have fr2 := hxr.free 2
  obtain ⟨sr0, sr1, sr2⟩ := (((hxr.set 0 (.int .i64 0)).set 1 (.int .i64 0)).set 2 (.int .i64 0)).three
  go_wp2_with fail
  refine bodyPost_ret (v := .tuple #[.agg #[.int .i64 0, .int .i64 0, .int .i64 0], .bool false]) (by simp [results, Try.results55, go_sem, sr0, sr1, sr2]) (by rfl) ⟨by rfl, ?_⟩
  exact below_sets3 h (by omega) _ _ _


set_option maxHeartbeats 1000000 in
set_option maxRecDepth 100000 in
theorem pof_no (a b : Int) (p rb ro c x y : Nat) (w : World) (h5 : 5 ≤ p) (h9 : p ≤ 997) (hrb : rb < w.heap.size) (r0 : w.cell? ⟨rb, ro, none⟩ = some (.int .i64 (x : Int))) (r1 : w.cell? ⟨rb, ro + 1, none⟩ = some (.int .i64 (y : Int))) (hx : x < p) (hy : y < p) (he : ¬ y * y % p = fval a b p x) : Calls Try.prog 55 #[.agg #[.int .i64 (rs p a : Int), .int .i64 (rs p b : Int), .int .i64 (p : Int)], .slice (some ⟨rb, ro, none⟩) 2 c] w (GivesPB w 0 0 0 false) := by
  have p0 : ((p : Int) == 0) = false := beq_eq_false_iff_ne.2 (by omega)
  have p1 : (p : Int) ≠ 0 := by omega
  have p2 : p ≠ 0 := by omega
  have d1 : ¬ mn2 (x : Int) (y : Int) < 0 := by unfold mn2; omega
  have d2 : ¬ (p : Int) ≤ mx2 (x : Int) (y : Int) := by unfold mx2; omega
  have c1 := fun W => at_any a b p x W h5 h9 hx
  have hVp : fval a b p x < p := rs_lt (by omega) _
  obtain ⟨s3, s4⟩ := small_mul (o := y) (x := y) (by omega) (by omega)
  have eB : ((y : Int) * y % p == (fval a b p x : Int)) = false := by rw [cast_mm, beq_nat]; exact decide_eq_false he
  have eN : ((y : Int) * y % p != (fval a b p x : Int)) = true := by rw [bne, eB]; rfl
  generalize fval a b p x = V at *
  have ew2 : IntKind.i64.wrap ((y : Int) * y) = (y : Int) * y := IntWalk.i64_in _ (by omega)
  have q2 : ((y : Int) * y).tmod p = (y : Int) * y % p := Int.tmod_eq_emod_of_nonneg s3
  replace c1 := Lib.hid c1
  clear he eB
  have hrr : ∀ W, Below w.heap.size w W → W.cell? ⟨rb, ro, none⟩ = some (.int .i64 (x : Int)) ∧ W.cell? ⟨rb, ro + 1, none⟩ = some (.int .i64 (y : Int)) := fun W hW => ⟨(hW.cell (p := ⟨rb, ro, none⟩) hrb).trans r0, (hW.cell (p := ⟨rb, ro + 1, none⟩) hrb).trans r1⟩
  replace hrr := Lib.hid hrr
  clear r0 r1
  have h := Below.refl w.heap.size w
  have hA := below_alloc1 w (.cells #[.int .i64 (rs p a : Int), .int .i64 (rs p b : Int), .int .i64 (p : Int)] 62)
  have hxf := Box.new w 62 #[.int .i64 (rs p a : Int), .int .i64 (rs p b : Int), .int .i64 (p : Int)]
  replace h := Below.step h hA
  clear hA
  have hA := below_alloc1 (w.alloc (.cells #[.int .i64 (rs p a : Int), .int .i64 (rs p b : Int), .int .i64 (p : Int)] 62)) (.cells #[.int .i64 0, .int .i64 0, .int .i64 0] 70)
  have hxr := Box.new (w.alloc (.cells #[.int .i64 (rs p a : Int), .int .i64 (rs p b : Int), .int .i64 (p : Int)] 62)) 70 #[.int .i64 0, .int .i64 0, .int .i64 0]
  rw [show (w.alloc (.cells #[.int .i64 (rs p a : Int), .int .i64 (rs p b : Int), .int .i64 (p : Int)] 62)).heap.size = w.heap.size + 1 from by simp] at hxr
  replace h := Below.step h hA
  replace hxf := hxf.kept hA
  clear hA
  obtain ⟨kf0, kf1, kf2⟩ := hxf.three
  have lf := hxf.lt
  obtain ⟨kr0, kr1, kr2⟩ := hxr.three
  have lr := hxr.lt
  obtain ⟨r0, r1⟩ := hrr.out _ h
  go_enter Try.func55, Try.ntmps55
  go_wp2_with fail
  go_quiet (fail)
  generalize ((w.alloc (.cells #[.int .i64 (rs p a : Int), .int .i64 (rs p b : Int), .int .i64 (p : Int)] 62)).alloc (.cells #[.int .i64 0, .int .i64 0, .int .i64 0] 70)) = w1 at *
  have hb := below_dr w1 nq
  generalize World.drewN w1 nq = w2 at *
  replace h := Below.step h hb
  replace hxf := hxf.kept hb
  replace hxr := hxr.kept hb
  clear hb kf0 kf1 kf2 lf kr0 kr1 kr2 lr r0 r1
  obtain ⟨kf0, kf1, kf2⟩ := hxf.three
  have lf := hxf.lt
  obtain ⟨kr0, kr1, kr2⟩ := hxr.three
  have lr := hxr.lt
  obtain ⟨r0, r1⟩ := hrr.out _ h
  go_upto_region 5 with fail
  have KM : ∀ (W : World), Below w2.heap.size w2 W → (W.cell? ⟨w.heap.size, 0, none⟩ = some (.int .i64 (rs p a : Int)) ∧ W.cell? ⟨w.heap.size, 1, none⟩ = some (.int .i64 (rs p b : Int)) ∧ W.cell? ⟨w.heap.size, 2, none⟩ = some (.int .i64 (p : Int)) ∧ W.cell? ⟨(w.heap.size + 1), 0, none⟩ = some (.int .i64 0) ∧ W.cell? ⟨(w.heap.size + 1), 1, none⟩ = some (.int .i64 0) ∧ W.cell? ⟨(w.heap.size + 1), 2, none⟩ = some (.int .i64 0) ∧ W.cell? ⟨rb, ro, none⟩ = some (.int .i64 (x : Int)) ∧ W.cell? ⟨rb, ro + 1, none⟩ = some (.int .i64 (y : Int)) ∧ Below w2.heap.size w2 W) := fun W hW => ⟨(hxf.kept hW).three.1, (hxf.kept hW).three.2.1, (hxf.kept hW).three.2.2, (hxr.kept hW).three.1, (hxr.kept hW).three.2.1, (hxr.kept hW).three.2.2, (hrr.out _ (Below.step h hW)).1, (hrr.out _ (Below.step h hW)).2, hW⟩
  have KC : ∀ (W W' : World), Below W.heap.size W W' → (W.cell? ⟨w.heap.size, 0, none⟩ = some (.int .i64 (rs p a : Int)) ∧ W.cell? ⟨w.heap.size, 1, none⟩ = some (.int .i64 (rs p b : Int)) ∧ W.cell? ⟨w.heap.size, 2, none⟩ = some (.int .i64 (p : Int)) ∧ W.cell? ⟨(w.heap.size + 1), 0, none⟩ = some (.int .i64 0) ∧ W.cell? ⟨(w.heap.size + 1), 1, none⟩ = some (.int .i64 0) ∧ W.cell? ⟨(w.heap.size + 1), 2, none⟩ = some (.int .i64 0) ∧ W.cell? ⟨rb, ro, none⟩ = some (.int .i64 (x : Int)) ∧ W.cell? ⟨rb, ro + 1, none⟩ = some (.int .i64 (y : Int)) ∧ Below w2.heap.size w2 W) → (W'.cell? ⟨w.heap.size, 0, none⟩ = some (.int .i64 (rs p a : Int)) ∧ W'.cell? ⟨w.heap.size, 1, none⟩ = some (.int .i64 (rs p b : Int)) ∧ W'.cell? ⟨w.heap.size, 2, none⟩ = some (.int .i64 (p : Int)) ∧ W'.cell? ⟨(w.heap.size + 1), 0, none⟩ = some (.int .i64 0) ∧ W'.cell? ⟨(w.heap.size + 1), 1, none⟩ = some (.int .i64 0) ∧ W'.cell? ⟨(w.heap.size + 1), 2, none⟩ = some (.int .i64 0) ∧ W'.cell? ⟨rb, ro, none⟩ = some (.int .i64 (x : Int)) ∧ W'.cell? ⟨rb, ro + 1, none⟩ = some (.int .i64 (y : Int)) ∧ Below w2.heap.size w2 W') := fun W W' hb ⟨_, _, _, _, _, _, _, _, hW⟩ => KM _ (Below.step hW hb)
  have KA : ∀ (W : World) (o : Obj), (W.cell? ⟨w.heap.size, 0, none⟩ = some (.int .i64 (rs p a : Int)) ∧ W.cell? ⟨w.heap.size, 1, none⟩ = some (.int .i64 (rs p b : Int)) ∧ W.cell? ⟨w.heap.size, 2, none⟩ = some (.int .i64 (p : Int)) ∧ W.cell? ⟨(w.heap.size + 1), 0, none⟩ = some (.int .i64 0) ∧ W.cell? ⟨(w.heap.size + 1), 1, none⟩ = some (.int .i64 0) ∧ W.cell? ⟨(w.heap.size + 1), 2, none⟩ = some (.int .i64 0) ∧ W.cell? ⟨rb, ro, none⟩ = some (.int .i64 (x : Int)) ∧ W.cell? ⟨rb, ro + 1, none⟩ = some (.int .i64 (y : Int)) ∧ Below w2.heap.size w2 W) → ((W.alloc o).cell? ⟨w.heap.size, 0, none⟩ = some (.int .i64 (rs p a : Int)) ∧ (W.alloc o).cell? ⟨w.heap.size, 1, none⟩ = some (.int .i64 (rs p b : Int)) ∧ (W.alloc o).cell? ⟨w.heap.size, 2, none⟩ = some (.int .i64 (p : Int)) ∧ (W.alloc o).cell? ⟨(w.heap.size + 1), 0, none⟩ = some (.int .i64 0) ∧ (W.alloc o).cell? ⟨(w.heap.size + 1), 1, none⟩ = some (.int .i64 0) ∧ (W.alloc o).cell? ⟨(w.heap.size + 1), 2, none⟩ = some (.int .i64 0) ∧ (W.alloc o).cell? ⟨rb, ro, none⟩ = some (.int .i64 (x : Int)) ∧ (W.alloc o).cell? ⟨rb, ro + 1, none⟩ = some (.int .i64 (y : Int)) ∧ Below w2.heap.size w2 (W.alloc o)) := fun W o ⟨_, _, _, _, _, _, _, _, hW⟩ => KM _ (Below.step hW (below_alloc1 _ _))
  have KD : ∀ (W : World), (W.cell? ⟨w.heap.size, 0, none⟩ = some (.int .i64 (rs p a : Int)) ∧ W.cell? ⟨w.heap.size, 1, none⟩ = some (.int .i64 (rs p b : Int)) ∧ W.cell? ⟨w.heap.size, 2, none⟩ = some (.int .i64 (p : Int)) ∧ W.cell? ⟨(w.heap.size + 1), 0, none⟩ = some (.int .i64 0) ∧ W.cell? ⟨(w.heap.size + 1), 1, none⟩ = some (.int .i64 0) ∧ W.cell? ⟨(w.heap.size + 1), 2, none⟩ = some (.int .i64 0) ∧ W.cell? ⟨rb, ro, none⟩ = some (.int .i64 (x : Int)) ∧ W.cell? ⟨rb, ro + 1, none⟩ = some (.int .i64 (y : Int)) ∧ Below w2.heap.size w2 W) → (W.drew.cell? ⟨w.heap.size, 0, none⟩ = some (.int .i64 (rs p a : Int)) ∧ W.drew.cell? ⟨w.heap.size, 1, none⟩ = some (.int .i64 (rs p b : Int)) ∧ W.drew.cell? ⟨w.heap.size, 2, none⟩ = some (.int .i64 (p : Int)) ∧ W.drew.cell? ⟨(w.heap.size + 1), 0, none⟩ = some (.int .i64 0) ∧ W.drew.cell? ⟨(w.heap.size + 1), 1, none⟩ = some (.int .i64 0) ∧ W.drew.cell? ⟨(w.heap.size + 1), 2, none⟩ = some (.int .i64 0) ∧ W.drew.cell? ⟨rb, ro, none⟩ = some (.int .i64 (x : Int)) ∧ W.drew.cell? ⟨rb, ro + 1, none⟩ = some (.int .i64 (y : Int)) ∧ Below w2.heap.size w2 W.drew) := fun W ⟨_, _, _, _, _, _, _, _, hW⟩ => KM _ (Below.drewN' hW 1)
  have KB : ∀ (W : World), (W.cell? ⟨w.heap.size, 0, none⟩ = some (.int .i64 (rs p a : Int)) ∧ W.cell? ⟨w.heap.size, 1, none⟩ = some (.int .i64 (rs p b : Int)) ∧ W.cell? ⟨w.heap.size, 2, none⟩ = some (.int .i64 (p : Int)) ∧ W.cell? ⟨(w.heap.size + 1), 0, none⟩ = some (.int .i64 0) ∧ W.cell? ⟨(w.heap.size + 1), 1, none⟩ = some (.int .i64 0) ∧ W.cell? ⟨(w.heap.size + 1), 2, none⟩ = some (.int .i64 0) ∧ W.cell? ⟨rb, ro, none⟩ = some (.int .i64 (x : Int)) ∧ W.cell? ⟨rb, ro + 1, none⟩ = some (.int .i64 (y : Int)) ∧ Below w2.heap.size w2 W) → Below w2.heap.size w2 W := fun W ⟨_, _, _, _, _, _, _, _, hW⟩ => hW
  have KM0 := KM w2.drew ⟨rfl, rfl, rfl, Nat.le_refl _, fun _ _ => rfl⟩
  have KM00 := KM _ (Below.refl _ _)
  have KE : ∀ (W : World), (W.cell? ⟨w.heap.size, 0, none⟩ = some (.int .i64 (rs p a : Int)) ∧ W.cell? ⟨w.heap.size, 1, none⟩ = some (.int .i64 (rs p b : Int)) ∧ W.cell? ⟨w.heap.size, 2, none⟩ = some (.int .i64 (p : Int)) ∧ W.cell? ⟨(w.heap.size + 1), 0, none⟩ = some (.int .i64 0) ∧ W.cell? ⟨(w.heap.size + 1), 1, none⟩ = some (.int .i64 0) ∧ W.cell? ⟨(w.heap.size + 1), 2, none⟩ = some (.int .i64 0) ∧ W.cell? ⟨rb, ro, none⟩ = some (.int .i64 (x : Int)) ∧ W.cell? ⟨rb, ro + 1, none⟩ = some (.int .i64 (y : Int)) ∧ Below w2.heap.size w2 W) → Below w.heap.size w W := fun W ⟨_, _, _, _, _, _, _, _, hW⟩ => Below.step h hW
  replace KC := Lib.hid KC
  replace KA := Lib.hid KA
  replace KD := Lib.hid KD
  replace KB := Lib.hid KB
  replace KE := Lib.hid KE
  clear KM kf0 kf1 kf2 lf kr0 kr1 kr2 lr r0 r1
  go_cut [38] (fun s38 wx => s38 = .bool true ∧ Below w2.heap.size w2 wx)
  case first =>
    go_region_held3 (fun w' => w'.cell? ⟨w.heap.size, 0, none⟩ = some (.int .i64 (rs p a : Int)) ∧ w'.cell? ⟨w.heap.size, 1, none⟩ = some (.int .i64 (rs p b : Int)) ∧ w'.cell? ⟨w.heap.size, 2, none⟩ = some (.int .i64 (p : Int)) ∧ w'.cell? ⟨(w.heap.size + 1), 0, none⟩ = some (.int .i64 0) ∧ w'.cell? ⟨(w.heap.size + 1), 1, none⟩ = some (.int .i64 0) ∧ w'.cell? ⟨(w.heap.size + 1), 2, none⟩ = some (.int .i64 0) ∧ w'.cell? ⟨rb, ro, none⟩ = some (.int .i64 (x : Int)) ∧ w'.cell? ⟨rb, ro + 1, none⟩ = some (.int .i64 (y : Int)) ∧ Below w2.heap.size w2 w') ((first | (with_reducible assumption) | ((with_reducible refine KD.out _ ?_); (with_reducible assumption)) | ((with_reducible refine KA.out _ _ ?_); (first | (with_reducible assumption) | ((with_reducible refine KD.out _ ?_); (with_reducible assumption)))) | ((with_reducible refine KC.out _ _ ?_ ?_); (with_reducible assumption); (with_reducible assumption))))
      (first
        | (go_at_call 49; (with_reducible refine (c1.out _).mono ?_); rintro e wC0 ⟨rfl, hbC⟩; have hS0 : wC0.cell? ⟨w.heap.size, 0, none⟩ = some (.int .i64 (rs p a : Int)) ∧ wC0.cell? ⟨w.heap.size, 1, none⟩ = some (.int .i64 (rs p b : Int)) ∧ wC0.cell? ⟨w.heap.size, 2, none⟩ = some (.int .i64 (p : Int)) ∧ wC0.cell? ⟨(w.heap.size + 1), 0, none⟩ = some (.int .i64 0) ∧ wC0.cell? ⟨(w.heap.size + 1), 1, none⟩ = some (.int .i64 0) ∧ wC0.cell? ⟨(w.heap.size + 1), 2, none⟩ = some (.int .i64 0) ∧ wC0.cell? ⟨rb, ro, none⟩ = some (.int .i64 (x : Int)) ∧ wC0.cell? ⟨rb, ro + 1, none⟩ = some (.int .i64 (y : Int)) ∧ Below w2.heap.size w2 wC0 := KC.out _ _ hbC (by assumption)))
    all_goals (go_wp2_with fail; go_meet)
    all_goals refine ⟨(by first | with_reducible rfl | rw [eN]), KB.out _ ?_⟩
    all_goals (first | (with_reducible assumption) | ((with_reducible refine KD.out _ ?_); (with_reducible assumption)))
  case rest =>
  obtain ⟨rfl, hb⟩ := hcut
  clear KM0 KM00 KC KA KD KB KE
  rename World => wh3
  replace h := Below.step h hb
  replace hxf := hxf.kept hb
  replace hxr := hxr.kept hb
  clear hb
  obtain ⟨kf0, kf1, kf2⟩ := hxf.three
  have lf := hxf.lt
  obtain ⟨kr0, kr1, kr2⟩ := hxr.three
  have lr := hxr.lt
  obtain ⟨r0, r1⟩ := hrr.out _ h
  have fr0 := hxr.free 0
  have fr1 := hxr.free 1
  have fr2 := hxr.free 2
  obtain ⟨sr0, sr1, sr2⟩ := (((hxr.set 0 (.int .i64 0)).set 1 (.int .i64 0)).set 2 (.int .i64 0)).three
  go_wp2_with fail
  refine bodyPost_ret (v := .tuple #[.agg #[.int .i64 0, .int .i64 0, .int .i64 0], .bool false]) (by simp [results, Try.results55, go_sem, sr0, sr1, sr2]) (by rfl) ⟨by rfl, ?_⟩
  exact below_sets3 h (by omega) _ _ _


set_option maxHeartbeats 1000000 in
set_option maxRecDepth 100000 in
theorem pof_yes (a b : Int) (p rb ro c x y : Nat) (w : World) (h5 : 5 ≤ p) (h9 : p ≤ 997) (hrb : rb < w.heap.size) (r0 : w.cell? ⟨rb, ro, none⟩ = some (.int .i64 (x : Int))) (r1 : w.cell? ⟨rb, ro + 1, none⟩ = some (.int .i64 (y : Int))) (hx : x < p) (hy : y < p) (he :  y * y % p = fval a b p x) : Calls Try.prog 55 #[.agg #[.int .i64 (rs p a : Int), .int .i64 (rs p b : Int), .int .i64 (p : Int)], .slice (some ⟨rb, ro, none⟩) 2 c] w (GivesPB w x y 1 true) := by
  have p0 : ((p : Int) == 0) = false := beq_eq_false_iff_ne.2 (by omega)
  have p1 : (p : Int) ≠ 0 := by omega
  have p2 : p ≠ 0 := by omega
  have d1 : ¬ mn2 (x : Int) (y : Int) < 0 := by unfold mn2; omega
  have d2 : ¬ (p : Int) ≤ mx2 (x : Int) (y : Int) := by unfold mx2; omega
  have c1 := fun W => at_any a b p x W h5 h9 hx
  have hVp : fval a b p x < p := rs_lt (by omega) _
  obtain ⟨s3, s4⟩ := small_mul (o := y) (x := y) (by omega) (by omega)
  have eB : ((y : Int) * y % p == (fval a b p x : Int)) = true := by rw [cast_mm, beq_nat]; exact decide_eq_true he
  have eN : ((y : Int) * y % p != (fval a b p x : Int)) = false := by rw [bne, eB]; rfl
  generalize fval a b p x = V at *
  have ew2 : IntKind.i64.wrap ((y : Int) * y) = (y : Int) * y := IntWalk.i64_in _ (by omega)
  have q2 : ((y : Int) * y).tmod p = (y : Int) * y % p := Int.tmod_eq_emod_of_nonneg s3
  replace c1 := Lib.hid c1
  clear he eB
  have hrr : ∀ W, Below w.heap.size w W → W.cell? ⟨rb, ro, none⟩ = some (.int .i64 (x : Int)) ∧ W.cell? ⟨rb, ro + 1, none⟩ = some (.int .i64 (y : Int)) := fun W hW => ⟨(hW.cell (p := ⟨rb, ro, none⟩) hrb).trans r0, (hW.cell (p := ⟨rb, ro + 1, none⟩) hrb).trans r1⟩
  replace hrr := Lib.hid hrr
  clear r0 r1
  have h := Below.refl w.heap.size w
  have hA := below_alloc1 w (.cells #[.int .i64 (rs p a : Int), .int .i64 (rs p b : Int), .int .i64 (p : Int)] 62)
  have hxf := Box.new w 62 #[.int .i64 (rs p a : Int), .int .i64 (rs p b : Int), .int .i64 (p : Int)]
  replace h := Below.step h hA
  clear hA
  have hA := below_alloc1 (w.alloc (.cells #[.int .i64 (rs p a : Int), .int .i64 (rs p b : Int), .int .i64 (p : Int)] 62)) (.cells #[.int .i64 0, .int .i64 0, .int .i64 0] 70)
  have hxr := Box.new (w.alloc (.cells #[.int .i64 (rs p a : Int), .int .i64 (rs p b : Int), .int .i64 (p : Int)] 62)) 70 #[.int .i64 0, .int .i64 0, .int .i64 0]
  rw [show (w.alloc (.cells #[.int .i64 (rs p a : Int), .int .i64 (rs p b : Int), .int .i64 (p : Int)] 62)).heap.size = w.heap.size + 1 from by simp] at hxr
  replace h := Below.step h hA
  replace hxf := hxf.kept hA
  clear hA
  obtain ⟨kf0, kf1, kf2⟩ := hxf.three
  have lf := hxf.lt
  obtain ⟨kr0, kr1, kr2⟩ := hxr.three
  have lr := hxr.lt
  obtain ⟨r0, r1⟩ := hrr.out _ h
  go_enter Try.func55, Try.ntmps55
  go_wp2_with fail
  go_quiet (fail)
  generalize ((w.alloc (.cells #[.int .i64 (rs p a : Int), .int .i64 (rs p b : Int), .int .i64 (p : Int)] 62)).alloc (.cells #[.int .i64 0, .int .i64 0, .int .i64 0] 70)) = w1 at *
  have hb := below_dr w1 nq
  generalize World.drewN w1 nq = w2 at *
  replace h := Below.step h hb
  replace hxf := hxf.kept hb
  replace hxr := hxr.kept hb
  clear hb kf0 kf1 kf2 lf kr0 kr1 kr2 lr r0 r1
  obtain ⟨kf0, kf1, kf2⟩ := hxf.three
  have lf := hxf.lt
  obtain ⟨kr0, kr1, kr2⟩ := hxr.three
  have lr := hxr.lt
  obtain ⟨r0, r1⟩ := hrr.out _ h
  go_upto_region 5 with fail
  have KM : ∀ (W : World), Below w2.heap.size w2 W → (W.cell? ⟨w.heap.size, 0, none⟩ = some (.int .i64 (rs p a : Int)) ∧ W.cell? ⟨w.heap.size, 1, none⟩ = some (.int .i64 (rs p b : Int)) ∧ W.cell? ⟨w.heap.size, 2, none⟩ = some (.int .i64 (p : Int)) ∧ W.cell? ⟨(w.heap.size + 1), 0, none⟩ = some (.int .i64 0) ∧ W.cell? ⟨(w.heap.size + 1), 1, none⟩ = some (.int .i64 0) ∧ W.cell? ⟨(w.heap.size + 1), 2, none⟩ = some (.int .i64 0) ∧ W.cell? ⟨rb, ro, none⟩ = some (.int .i64 (x : Int)) ∧ W.cell? ⟨rb, ro + 1, none⟩ = some (.int .i64 (y : Int)) ∧ Below w2.heap.size w2 W) := fun W hW => ⟨(hxf.kept hW).three.1, (hxf.kept hW).three.2.1, (hxf.kept hW).three.2.2, (hxr.kept hW).three.1, (hxr.kept hW).three.2.1, (hxr.kept hW).three.2.2, (hrr.out _ (Below.step h hW)).1, (hrr.out _ (Below.step h hW)).2, hW⟩
  have KC : ∀ (W W' : World), Below W.heap.size W W' → (W.cell? ⟨w.heap.size, 0, none⟩ = some (.int .i64 (rs p a : Int)) ∧ W.cell? ⟨w.heap.size, 1, none⟩ = some (.int .i64 (rs p b : Int)) ∧ W.cell? ⟨w.heap.size, 2, none⟩ = some (.int .i64 (p : Int)) ∧ W.cell? ⟨(w.heap.size + 1), 0, none⟩ = some (.int .i64 0) ∧ W.cell? ⟨(w.heap.size + 1), 1, none⟩ = some (.int .i64 0) ∧ W.cell? ⟨(w.heap.size + 1), 2, none⟩ = some (.int .i64 0) ∧ W.cell? ⟨rb, ro, none⟩ = some (.int .i64 (x : Int)) ∧ W.cell? ⟨rb, ro + 1, none⟩ = some (.int .i64 (y : Int)) ∧ Below w2.heap.size w2 W) → (W'.cell? ⟨w.heap.size, 0, none⟩ = some (.int .i64 (rs p a : Int)) ∧ W'.cell? ⟨w.heap.size, 1, none⟩ = some (.int .i64 (rs p b : Int)) ∧ W'.cell? ⟨w.heap.size, 2, none⟩ = some (.int .i64 (p : Int)) ∧ W'.cell? ⟨(w.heap.size + 1), 0, none⟩ = some (.int .i64 0) ∧ W'.cell? ⟨(w.heap.size + 1), 1, none⟩ = some (.int .i64 0) ∧ W'.cell? ⟨(w.heap.size + 1), 2, none⟩ = some (.int .i64 0) ∧ W'.cell? ⟨rb, ro, none⟩ = some (.int .i64 (x : Int)) ∧ W'.cell? ⟨rb, ro + 1, none⟩ = some (.int .i64 (y : Int)) ∧ Below w2.heap.size w2 W') := fun W W' hb ⟨_, _, _, _, _, _, _, _, hW⟩ => KM _ (Below.step hW hb)
  have KA : ∀ (W : World) (o : Obj), (W.cell? ⟨w.heap.size, 0, none⟩ = some (.int .i64 (rs p a : Int)) ∧ W.cell? ⟨w.heap.size, 1, none⟩ = some (.int .i64 (rs p b : Int)) ∧ W.cell? ⟨w.heap.size, 2, none⟩ = some (.int .i64 (p : Int)) ∧ W.cell? ⟨(w.heap.size + 1), 0, none⟩ = some (.int .i64 0) ∧ W.cell? ⟨(w.heap.size + 1), 1, none⟩ = some (.int .i64 0) ∧ W.cell? ⟨(w.heap.size + 1), 2, none⟩ = some (.int .i64 0) ∧ W.cell? ⟨rb, ro, none⟩ = some (.int .i64 (x : Int)) ∧ W.cell? ⟨rb, ro + 1, none⟩ = some (.int .i64 (y : Int)) ∧ Below w2.heap.size w2 W) → ((W.alloc o).cell? ⟨w.heap.size, 0, none⟩ = some (.int .i64 (rs p a : Int)) ∧ (W.alloc o).cell? ⟨w.heap.size, 1, none⟩ = some (.int .i64 (rs p b : Int)) ∧ (W.alloc o).cell? ⟨w.heap.size, 2, none⟩ = some (.int .i64 (p : Int)) ∧ (W.alloc o).cell? ⟨(w.heap.size + 1), 0, none⟩ = some (.int .i64 0) ∧ (W.alloc o).cell? ⟨(w.heap.size + 1), 1, none⟩ = some (.int .i64 0) ∧ (W.alloc o).cell? ⟨(w.heap.size + 1), 2, none⟩ = some (.int .i64 0) ∧ (W.alloc o).cell? ⟨rb, ro, none⟩ = some (.int .i64 (x : Int)) ∧ (W.alloc o).cell? ⟨rb, ro + 1, none⟩ = some (.int .i64 (y : Int)) ∧ Below w2.heap.size w2 (W.alloc o)) := fun W o ⟨_, _, _, _, _, _, _, _, hW⟩ => KM _ (Below.step hW (below_alloc1 _ _))
  have KD : ∀ (W : World), (W.cell? ⟨w.heap.size, 0, none⟩ = some (.int .i64 (rs p a : Int)) ∧ W.cell? ⟨w.heap.size, 1, none⟩ = some (.int .i64 (rs p b : Int)) ∧ W.cell? ⟨w.heap.size, 2, none⟩ = some (.int .i64 (p : Int)) ∧ W.cell? ⟨(w.heap.size + 1), 0, none⟩ = some (.int .i64 0) ∧ W.cell? ⟨(w.heap.size + 1), 1, none⟩ = some (.int .i64 0) ∧ W.cell? ⟨(w.heap.size + 1), 2, none⟩ = some (.int .i64 0) ∧ W.cell? ⟨rb, ro, none⟩ = some (.int .i64 (x : Int)) ∧ W.cell? ⟨rb, ro + 1, none⟩ = some (.int .i64 (y : Int)) ∧ Below w2.heap.size w2 W) → (W.drew.cell? ⟨w.heap.size, 0, none⟩ = some (.int .i64 (rs p a : Int)) ∧ W.drew.cell? ⟨w.heap.size, 1, none⟩ = some (.int .i64 (rs p b : Int)) ∧ W.drew.cell? ⟨w.heap.size, 2, none⟩ = some (.int .i64 (p : Int)) ∧ W.drew.cell? ⟨(w.heap.size + 1), 0, none⟩ = some (.int .i64 0) ∧ W.drew.cell? ⟨(w.heap.size + 1), 1, none⟩ = some (.int .i64 0) ∧ W.drew.cell? ⟨(w.heap.size + 1), 2, none⟩ = some (.int .i64 0) ∧ W.drew.cell? ⟨rb, ro, none⟩ = some (.int .i64 (x : Int)) ∧ W.drew.cell? ⟨rb, ro + 1, none⟩ = some (.int .i64 (y : Int)) ∧ Below w2.heap.size w2 W.drew) := fun W ⟨_, _, _, _, _, _, _, _, hW⟩ => KM _ (Below.drewN' hW 1)
  have KB : ∀ (W : World), (W.cell? ⟨w.heap.size, 0, none⟩ = some (.int .i64 (rs p a : Int)) ∧ W.cell? ⟨w.heap.size, 1, none⟩ = some (.int .i64 (rs p b : Int)) ∧ W.cell? ⟨w.heap.size, 2, none⟩ = some (.int .i64 (p : Int)) ∧ W.cell? ⟨(w.heap.size + 1), 0, none⟩ = some (.int .i64 0) ∧ W.cell? ⟨(w.heap.size + 1), 1, none⟩ = some (.int .i64 0) ∧ W.cell? ⟨(w.heap.size + 1), 2, none⟩ = some (.int .i64 0) ∧ W.cell? ⟨rb, ro, none⟩ = some (.int .i64 (x : Int)) ∧ W.cell? ⟨rb, ro + 1, none⟩ = some (.int .i64 (y : Int)) ∧ Below w2.heap.size w2 W) → Below w2.heap.size w2 W := fun W ⟨_, _, _, _, _, _, _, _, hW⟩ => hW
  have KM0 := KM w2.drew ⟨rfl, rfl, rfl, Nat.le_refl _, fun _ _ => rfl⟩
  have KM00 := KM _ (Below.refl _ _)
  have KE : ∀ (W : World), (W.cell? ⟨w.heap.size, 0, none⟩ = some (.int .i64 (rs p a : Int)) ∧ W.cell? ⟨w.heap.size, 1, none⟩ = some (.int .i64 (rs p b : Int)) ∧ W.cell? ⟨w.heap.size, 2, none⟩ = some (.int .i64 (p : Int)) ∧ W.cell? ⟨(w.heap.size + 1), 0, none⟩ = some (.int .i64 0) ∧ W.cell? ⟨(w.heap.size + 1), 1, none⟩ = some (.int .i64 0) ∧ W.cell? ⟨(w.heap.size + 1), 2, none⟩ = some (.int .i64 0) ∧ W.cell? ⟨rb, ro, none⟩ = some (.int .i64 (x : Int)) ∧ W.cell? ⟨rb, ro + 1, none⟩ = some (.int .i64 (y : Int)) ∧ Below w2.heap.size w2 W) → Below w.heap.size w W := fun W ⟨_, _, _, _, _, _, _, _, hW⟩ => Below.step h hW
  replace KC := Lib.hid KC
  replace KA := Lib.hid KA
  replace KD := Lib.hid KD
  replace KB := Lib.hid KB
  replace KE := Lib.hid KE
  clear KM kf0 kf1 kf2 lf kr0 kr1 kr2 lr r0 r1
  go_cut [38] (fun s38 wx => s38 = .bool false ∧ Below w2.heap.size w2 wx)
  case first =>
    go_region_held3 (fun w' => w'.cell? ⟨w.heap.size, 0, none⟩ = some (.int .i64 (rs p a : Int)) ∧ w'.cell? ⟨w.heap.size, 1, none⟩ = some (.int .i64 (rs p b : Int)) ∧ w'.cell? ⟨w.heap.size, 2, none⟩ = some (.int .i64 (p : Int)) ∧ w'.cell? ⟨(w.heap.size + 1), 0, none⟩ = some (.int .i64 0) ∧ w'.cell? ⟨(w.heap.size + 1), 1, none⟩ = some (.int .i64 0) ∧ w'.cell? ⟨(w.heap.size + 1), 2, none⟩ = some (.int .i64 0) ∧ w'.cell? ⟨rb, ro, none⟩ = some (.int .i64 (x : Int)) ∧ w'.cell? ⟨rb, ro + 1, none⟩ = some (.int .i64 (y : Int)) ∧ Below w2.heap.size w2 w') ((first | (with_reducible assumption) | ((with_reducible refine KD.out _ ?_); (with_reducible assumption)) | ((with_reducible refine KA.out _ _ ?_); (first | (with_reducible assumption) | ((with_reducible refine KD.out _ ?_); (with_reducible assumption)))) | ((with_reducible refine KC.out _ _ ?_ ?_); (with_reducible assumption); (with_reducible assumption))))
      (first
        | (go_at_call 49; (with_reducible refine (c1.out _).mono ?_); rintro e wC0 ⟨rfl, hbC⟩; have hS0 : wC0.cell? ⟨w.heap.size, 0, none⟩ = some (.int .i64 (rs p a : Int)) ∧ wC0.cell? ⟨w.heap.size, 1, none⟩ = some (.int .i64 (rs p b : Int)) ∧ wC0.cell? ⟨w.heap.size, 2, none⟩ = some (.int .i64 (p : Int)) ∧ wC0.cell? ⟨(w.heap.size + 1), 0, none⟩ = some (.int .i64 0) ∧ wC0.cell? ⟨(w.heap.size + 1), 1, none⟩ = some (.int .i64 0) ∧ wC0.cell? ⟨(w.heap.size + 1), 2, none⟩ = some (.int .i64 0) ∧ wC0.cell? ⟨rb, ro, none⟩ = some (.int .i64 (x : Int)) ∧ wC0.cell? ⟨rb, ro + 1, none⟩ = some (.int .i64 (y : Int)) ∧ Below w2.heap.size w2 wC0 := KC.out _ _ hbC (by assumption)))
    all_goals (go_wp2_with fail; go_meet)
    all_goals refine ⟨(by first | with_reducible rfl | rw [eN]), KB.out _ ?_⟩
    all_goals (first | (with_reducible assumption) | ((with_reducible refine KD.out _ ?_); (with_reducible assumption)))
  case rest =>
  obtain ⟨rfl, hb⟩ := hcut
  clear KM0 KM00 KC KA KD KB KE
  rename World => wh3
  replace h := Below.step h hb
  replace hxf := hxf.kept hb
  replace hxr := hxr.kept hb
  clear hb
  obtain ⟨kf0, kf1, kf2⟩ := hxf.three
  have lf := hxf.lt
  obtain ⟨kr0, kr1, kr2⟩ := hxr.three
  have lr := hxr.lt
  obtain ⟨r0, r1⟩ := hrr.out _ h
  go_upto_region 7 with fail
  go_still_tail 7, (by kernel_rfl)
  clear kf0 kf1 kf2 lf kr0 kr1 kr2 lr r0 r1
  have hb : Below wh3.heap.size wh3 wh3.drew := ⟨rfl, rfl, rfl, Nat.le_refl _, fun _ _ => rfl⟩
  change wpList _ _ _ _ _ wh3.drew
  generalize wh3.drew = w4 at *
  replace h := Below.step h hb
  replace hxf := hxf.kept hb
  replace hxr := hxr.kept hb
  clear hb
  obtain ⟨kf0, kf1, kf2⟩ := hxf.three
  have lf := hxf.lt
  obtain ⟨kr0, kr1, kr2⟩ := hxr.three
  have lr := hxr.lt
  obtain ⟨r0, r1⟩ := hrr.out _ h
  have fr0 := hxr.free 0
  have fr1 := hxr.free 1
  have fr2 := hxr.free 2
  obtain ⟨sr0, sr1, sr2⟩ := (((hxr.set 0 (.int .i64 (x : Int))).set 1 (.int .i64 (y : Int))).set 2 (.int .i64 1)).three
  go_wp2_with fail
  refine bodyPost_ret (v := .tuple #[.agg #[.int .i64 (x : Int), .int .i64 (y : Int), .int .i64 1], .bool true]) (by simp [results, Try.results55, go_sem, sr0, sr1, sr2]) (by rfl) ⟨by rfl, ?_⟩
  exact below_sets3 h (by omega) _ _ _


theorem pof_any {a b : Int} {p : Nat} (G : FG a b p) (A : Option Addr) (n c : Nat) (xs : List Int) (w : World) (h : Rd w w.heap.size A n xs) :
    (∀ s : FP, xs = fl s → FOn a b p s → Calls Try.prog 55 #[.agg #[.int .i64 (rs p a : Int), .int .i64 (rs p b : Int), .int .i64 (p : Int)], .slice A n c] w (GivesPB w (fpx s) (fpy s) (fpz s) true)) ∧ (¬ OnL a b p xs → Calls Try.prog 55 #[.agg #[.int .i64 (rs p a : Int), .int .i64 (rs p b : Int), .int .i64 (p : Int)], .slice A n c] w (GivesPB w 0 0 0 false)) := by
  have h5 := G.five
  have h9 := G.le
  have hl := h.1
  constructor
  · rintro s rfl hs
    rcases s with _ | ⟨x, y⟩
    · obtain rfl : 0 = n := hl
      exact pof_0 a b p A c w
    · obtain ⟨rfl, rb, ro, rfl, hb, r0, r1⟩ := h.two
      exact pof_yes a b p rb ro c x y w h5 h9 hb r0 r1 hs.1 hs.2.1 hs.2.2
  · intro hno
    by_cases h0 : n = 0
    · subst h0
      exact absurd ⟨none, List.eq_nil_of_length_eq_zero hl, trivial⟩ hno
    · by_cases h2 : n = 2
      · obtain ⟨x, y, rfl⟩ := two_of hl h2
        obtain ⟨rfl, rb, ro, rfl, hb, r0, r1⟩ := h.two
        by_cases d1 : mn2 x y < 0
        · exact pof_mn a b p rb ro c x y w hb r0 r1 d1
        · by_cases d2 : (p : Int) ≤ mx2 x y
          · exact pof_mx a b p rb ro c x y w hb r0 r1 d1 d2
          · unfold mn2 at d1
            unfold mx2 at d2
            obtain ⟨X, rfl⟩ : ∃ X : Nat, x = X := ⟨x.toNat, by omega⟩
            obtain ⟨Y, rfl⟩ : ∃ Y : Nat, y = Y := ⟨y.toNat, by omega⟩
            exact pof_no a b p rb ro c X Y w h5 h9 hb r0 r1 (by omega) (by omega) (fun e => hno ⟨some (X, Y), rfl, by omega, by omega, e⟩)
      · exact pof_len a b p n A c w h0 h2

set_option maxHeartbeats 1000000 in
set_option maxRecDepth 100000 in
theorem list_0 (w : World) : Calls Try.prog 53 #[.agg #[.int .i64 0, .int .i64 0, .int .i64 0]] w (GivesOwn w []) := by
  have h := Below.refl w.heap.size w
  have hA := below_alloc1 w (.cells #[.int .i64 0, .int .i64 0, .int .i64 0] 70)
  have hxs := Box.new w 70 #[.int .i64 0, .int .i64 0, .int .i64 0]
  replace h := Below.step h hA
  clear hA
  obtain ⟨ks0, ks1, ks2⟩ := hxs.three
  have ls := hxs.lt
  go_enter Try.func53, Try.ntmps53
  go_wp2_with fail
  go_ret
  exact ⟨none, 0, rfl, own_nil _ _, h⟩


set_option maxHeartbeats 1000000 in
set_option maxRecDepth 100000 in
theorem list_2 (x y : Nat) (w : World) : Calls Try.prog 53 #[.agg #[.int .i64 (x : Int), .int .i64 (y : Int), .int .i64 1]] w (GivesOwn w [(x : Int), (y : Int)]) := by
  have h := Below.refl w.heap.size w
  have hA := below_alloc1 w (.cells #[.int .i64 (x : Int), .int .i64 (y : Int), .int .i64 1] 70)
  have hxs := Box.new w 70 #[.int .i64 (x : Int), .int .i64 (y : Int), .int .i64 1]
  replace h := Below.step h hA
  clear hA
  obtain ⟨ks0, ks1, ks2⟩ := hxs.three
  have ls := hxs.lt
  go_enter Try.func53, Try.ntmps53
  go_wp2_with fail
  have ho := own_pair (w.alloc (.cells #[.int .i64 (x : Int), .int .i64 (y : Int), .int .i64 1] 70)) w.heap.size (x : Int) (y : Int) h.size
  rw [show ((w.alloc (.cells #[.int .i64 (x : Int), .int .i64 (y : Int), .int .i64 1] 70))).heap.size = w.heap.size + 1 from by simp] at ho
  go_ret
  exact ⟨_, 2, rfl, ho, Below.step h (below_alloc1 _ _)⟩


theorem list_any (s : FP) (w : World) : Calls Try.prog 53 #[.agg #[.int .i64 (fpx s), .int .i64 (fpy s), .int .i64 (fpz s)]] w (GivesOwn w (fl s)) := by
  rcases s with _ | ⟨x, y⟩
  · exact list_0 w
  · exact list_2 x y w
end Go.Proofs.Ytbgoiflkpefckaa
