/- The model's cuReal, RealRootCount, ReverseCubic (written by wip/gen/cuspec2.py). -/
import Derived.Test.YtanmkamagdajpaaDoorCuSpec
namespace Go.Proofs.YtanmkamagdajpaaDoor
open Go.RowKit Go.Joins

theorem below_sets4 {B b : Nat} {w0 W : World} (h : Below B w0 W) (hb : B ≤ b) (u v x y : Value) : Below B w0 ((((W.setCell ⟨b, 0, none⟩ u).setCell ⟨b, 1, none⟩ v).setCell ⟨b, 2, none⟩ x).setCell ⟨b, 3, none⟩ y) :=
  (((h.setCell (p := ⟨b, 0, none⟩) hb u).setCell (p := ⟨b, 1, none⟩) hb v).setCell (p := ⟨b, 2, none⟩) hb x).setCell (p := ⟨b, 3, none⟩) hb y

def cuRe (a b c d : Int) : Int := if 0 < cuDis a b c d then 3 else if cuDis a b c d < 0 ∨ b * b = 3 * a * c then 1 else 2

set_option maxHeartbeats 1000000 in
theorem revS_yes (a b c d : Int) (w : World) (g : CuG a b c d) (hd : d ≠ 0) : Calls Tryd.prog 11 #[.agg #[.int .i64 a, .int .i64 b, .int .i64 c, .int .i64 d]] w (GivesCB w d c b a true) := by
  have e1 : (d == 0) = false := by simp [hd]
  have h := below_alloc1 w (.cells #[.int .i64 a, .int .i64 b, .int .i64 c, .int .i64 d] 24)
  have hx0 := Box.new w 24 #[.int .i64 a, .int .i64 b, .int .i64 c, .int .i64 d]
  have hA := below_alloc1 (w.alloc (.cells #[.int .i64 a, .int .i64 b, .int .i64 c, .int .i64 d] 24)) (.cells #[.int .i64 0, .int .i64 0, .int .i64 0, .int .i64 0] 24)
  have hxr := Box.new (w.alloc (.cells #[.int .i64 a, .int .i64 b, .int .i64 c, .int .i64 d] 24)) 24 #[.int .i64 0, .int .i64 0, .int .i64 0, .int .i64 0]
  rw [show (w.alloc (.cells #[.int .i64 a, .int .i64 b, .int .i64 c, .int .i64 d] 24)).heap.size = w.heap.size + 1 from by simp] at hxr
  replace h := Below.step h hA
  replace hx0 := hx0.kept hA
  clear hA
  obtain ⟨k0, k1, k2, k3⟩ := hx0.four
  go_enter Tryd.func11, Tryd.ntmps11
  go_wp2_with fail
  refine (cuGood_yes a b c d _ g).mono ?_
  rintro e w1 ⟨rfl, hb⟩
  replace h := Below.step h hb
  replace hx0 := hx0.kept hb
  replace hxr := hxr.kept hb
  clear hb k0 k1 k2 k3
  obtain ⟨k0, k1, k2, k3⟩ := hx0.four
  obtain ⟨r0, r1, r2, r3⟩ := hxr.four
  have f0 := hxr.free 0
  have f1 := hxr.free 1
  have f2 := hxr.free 2
  have f3 := hxr.free 3
  have lr := hxr.lt
  obtain ⟨s0, s1, s2, s3⟩ := ((((hxr.set 0 (.int .i64 d)).set 1 (.int .i64 c)).set 2 (.int .i64 b)).set 3 (.int .i64 a)).four
  go_wp2_with fail
  refine bodyPost_ret (v := .tuple #[.agg #[.int .i64 d, .int .i64 c, .int .i64 b, .int .i64 a], .bool true]) (by simp [results, Tryd.results11, go_sem, s0, s1, s2, s3]) (by rfl) ⟨by rfl, ?_⟩
  exact below_sets4 h (Nat.le_succ _) _ _ _ _

set_option maxHeartbeats 1000000 in
theorem revS_zero (a b c d : Int) (w : World) (g : CuG a b c d) (hd : d = 0) : Calls Tryd.prog 11 #[.agg #[.int .i64 a, .int .i64 b, .int .i64 c, .int .i64 d]] w (GivesCB w 0 0 0 0 false) := by
  have e1 : (d == 0) = true := by simp [hd]
  clear hd
  have h := below_alloc1 w (.cells #[.int .i64 a, .int .i64 b, .int .i64 c, .int .i64 d] 24)
  have hx0 := Box.new w 24 #[.int .i64 a, .int .i64 b, .int .i64 c, .int .i64 d]
  have hA := below_alloc1 (w.alloc (.cells #[.int .i64 a, .int .i64 b, .int .i64 c, .int .i64 d] 24)) (.cells #[.int .i64 0, .int .i64 0, .int .i64 0, .int .i64 0] 24)
  have hxr := Box.new (w.alloc (.cells #[.int .i64 a, .int .i64 b, .int .i64 c, .int .i64 d] 24)) 24 #[.int .i64 0, .int .i64 0, .int .i64 0, .int .i64 0]
  rw [show (w.alloc (.cells #[.int .i64 a, .int .i64 b, .int .i64 c, .int .i64 d] 24)).heap.size = w.heap.size + 1 from by simp] at hxr
  replace h := Below.step h hA
  replace hx0 := hx0.kept hA
  clear hA
  obtain ⟨k0, k1, k2, k3⟩ := hx0.four
  go_enter Tryd.func11, Tryd.ntmps11
  go_wp2_with fail
  refine (cuGood_yes a b c d _ g).mono ?_
  rintro e w1 ⟨rfl, hb⟩
  replace h := Below.step h hb
  replace hx0 := hx0.kept hb
  replace hxr := hxr.kept hb
  clear hb k0 k1 k2 k3
  obtain ⟨k0, k1, k2, k3⟩ := hx0.four
  obtain ⟨r0, r1, r2, r3⟩ := hxr.four
  have f0 := hxr.free 0
  have f1 := hxr.free 1
  have f2 := hxr.free 2
  have f3 := hxr.free 3
  have lr := hxr.lt
  obtain ⟨s0, s1, s2, s3⟩ := ((((hxr.set 0 (.int .i64 0)).set 1 (.int .i64 0)).set 2 (.int .i64 0)).set 3 (.int .i64 0)).four
  go_wp2_with fail
  refine bodyPost_ret (v := .tuple #[.agg #[.int .i64 0, .int .i64 0, .int .i64 0, .int .i64 0], .bool false]) (by simp [results, Tryd.results11, go_sem, s0, s1, s2, s3]) (by rfl) ⟨by rfl, ?_⟩
  exact below_sets4 h (Nat.le_succ _) _ _ _ _

set_option maxHeartbeats 1000000 in
theorem revS_bad (a b c d : Int) (w : World) (g : ¬ CuG a b c d) : Calls Tryd.prog 11 #[.agg #[.int .i64 a, .int .i64 b, .int .i64 c, .int .i64 d]] w (GivesCB w 0 0 0 0 false) := by
  have h := below_alloc1 w (.cells #[.int .i64 a, .int .i64 b, .int .i64 c, .int .i64 d] 24)
  have hx0 := Box.new w 24 #[.int .i64 a, .int .i64 b, .int .i64 c, .int .i64 d]
  have hA := below_alloc1 (w.alloc (.cells #[.int .i64 a, .int .i64 b, .int .i64 c, .int .i64 d] 24)) (.cells #[.int .i64 0, .int .i64 0, .int .i64 0, .int .i64 0] 24)
  have hxr := Box.new (w.alloc (.cells #[.int .i64 a, .int .i64 b, .int .i64 c, .int .i64 d] 24)) 24 #[.int .i64 0, .int .i64 0, .int .i64 0, .int .i64 0]
  rw [show (w.alloc (.cells #[.int .i64 a, .int .i64 b, .int .i64 c, .int .i64 d] 24)).heap.size = w.heap.size + 1 from by simp] at hxr
  replace h := Below.step h hA
  replace hx0 := hx0.kept hA
  clear hA
  obtain ⟨k0, k1, k2, k3⟩ := hx0.four
  go_enter Tryd.func11, Tryd.ntmps11
  go_wp2_with fail
  refine (cuGood_no a b c d _ g).mono ?_
  rintro e w1 ⟨rfl, hb⟩
  replace h := Below.step h hb
  replace hx0 := hx0.kept hb
  replace hxr := hxr.kept hb
  clear hb k0 k1 k2 k3
  obtain ⟨k0, k1, k2, k3⟩ := hx0.four
  obtain ⟨r0, r1, r2, r3⟩ := hxr.four
  have f0 := hxr.free 0
  have f1 := hxr.free 1
  have f2 := hxr.free 2
  have f3 := hxr.free 3
  have lr := hxr.lt
  obtain ⟨s0, s1, s2, s3⟩ := ((((hxr.set 0 (.int .i64 0)).set 1 (.int .i64 0)).set 2 (.int .i64 0)).set 3 (.int .i64 0)).four
  go_wp2_with fail
  refine bodyPost_ret (v := .tuple #[.agg #[.int .i64 0, .int .i64 0, .int .i64 0, .int .i64 0], .bool false]) (by simp [results, Tryd.results11, go_sem, s0, s1, s2, s3]) (by rfl) ⟨by rfl, ?_⟩
  exact below_sets4 h (Nat.le_succ _) _ _ _ _
end Go.Proofs.YtanmkamagdajpaaDoor
