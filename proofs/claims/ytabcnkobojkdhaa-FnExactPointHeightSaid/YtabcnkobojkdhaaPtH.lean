/- PointHeight, NegatePoint of the model and of the program (written by wip/gen/pth.py). -/
import Derived.Test.YtabcnkobojkdhaaPtI
import Derived.Deep.RegionHeld3
import Derived.Deep.DeepCutAuto
import Derived.BigQuiet
namespace Go.Proofs.Ytabcnkobojkdhaa
open Go.RowKit Go.Joins

set_option maxHeartbeats 1000000 in
theorem ptHeight_inf (w : World) : Calls Try.prog 37 #[.agg #[.int .i64 0, .int .i64 0, .int .i64 0]] w (GivesI w 1) := by
  have h := Below.refl w.heap.size w
  have hA := below_alloc1 w (.cells #[.int .i64 0, .int .i64 0, .int .i64 0] 29)
  have hxp := Box.new w 29 #[.int .i64 0, .int .i64 0, .int .i64 0]
  replace h := Below.step h hA
  clear hA
  obtain ⟨kp0, kp1, kp2⟩ := hxp.three
  have lp := hxp.lt
  go_enter Try.func37, Try.ntmps37
  go_wp2_with fail
  go_ret
  exact ⟨rfl, h⟩


set_option maxHeartbeats 1000000 in
theorem ptHeight_l (p : P3) (w : World) (hx : -10000 ≤ p.x ∧ p.x ≤ 10000) (he : 1 ≤ p.e ∧ p.e ≤ 20) (hg : p.e * p.e < (p.x.natAbs : Int)) : Calls Try.prog 37 #[.agg #[.int .i64 p.x, .int .i64 p.y, .int .i64 p.e]] w (GivesI w (((p.x.natAbs : Nat) : Int))) := by
  have e0 : (p.e == 0) = false := by simp; omega
  have hsq := (ptE_bd he).1
  have c1 := fun W => l1Abs_any p.x W (by omega) (by omega)
  replace c1 := Lib.hid c1
  obtain ⟨e1, e2⟩ := he
  have c2 := fun W => l1Most_left ((p.x.natAbs : Nat) : Int) (p.e * p.e) W hg
  replace c2 := Lib.hid c2
  clear hg
  have h := Below.refl w.heap.size w
  have hA := below_alloc1 w (.cells #[.int .i64 p.x, .int .i64 p.y, .int .i64 p.e] 29)
  have hxp := Box.new w 29 #[.int .i64 p.x, .int .i64 p.y, .int .i64 p.e]
  replace h := Below.step h hA
  clear hA
  obtain ⟨kp0, kp1, kp2⟩ := hxp.three
  have lp := hxp.lt
  go_enter Try.func37, Try.ntmps37
  go_wp2_with fail
  go_quiet ((first | (go_at_call 40; exact qleft (c1.out _)) | (go_at_call 45; exact qleft (c2.out _))))
  go_wp2_with fail
  go_ret
  exact ⟨rfl, Below.drewN' h _⟩


set_option maxHeartbeats 1000000 in
theorem ptHeight_r (p : P3) (w : World) (hx : -10000 ≤ p.x ∧ p.x ≤ 10000) (he : 1 ≤ p.e ∧ p.e ≤ 20) (hg : (p.x.natAbs : Int) ≤ p.e * p.e) : Calls Try.prog 37 #[.agg #[.int .i64 p.x, .int .i64 p.y, .int .i64 p.e]] w (GivesI w (p.e * p.e)) := by
  have e0 : (p.e == 0) = false := by simp; omega
  have hsq := (ptE_bd he).1
  have c1 := fun W => l1Abs_any p.x W (by omega) (by omega)
  replace c1 := Lib.hid c1
  obtain ⟨e1, e2⟩ := he
  have c2 := fun W => l1Most_right ((p.x.natAbs : Nat) : Int) (p.e * p.e) W hg
  replace c2 := Lib.hid c2
  clear hg
  have h := Below.refl w.heap.size w
  have hA := below_alloc1 w (.cells #[.int .i64 p.x, .int .i64 p.y, .int .i64 p.e] 29)
  have hxp := Box.new w 29 #[.int .i64 p.x, .int .i64 p.y, .int .i64 p.e]
  replace h := Below.step h hA
  clear hA
  obtain ⟨kp0, kp1, kp2⟩ := hxp.three
  have lp := hxp.lt
  go_enter Try.func37, Try.ntmps37
  go_wp2_with fail
  go_quiet ((first | (go_at_call 40; exact qleft (c1.out _)) | (go_at_call 45; exact qleft (c2.out _))))
  go_wp2_with fail
  go_ret
  exact ⟨rfl, Below.drewN' h _⟩


def mxPt (x s : Int) : Int := if s < (x.natAbs : Int) then (x.natAbs : Int) else s
/-- The height of a point. -/
def ptHt (p : P3) : Int := if p.e = 0 then 1 else mxPt p.x (p.e * p.e)
theorem ptHeight_any {a b : Int} (p : P3) (w : World) (g : PtOn a b p) : Calls Try.prog 37 #[.agg #[.int .i64 p.x, .int .i64 p.y, .int .i64 p.e]] w (GivesI w (ptHt p)) := by
  unfold ptHt
  by_cases h : p.e = 0
  · rw [if_pos h, g.inf h]; exact ptHeight_inf w
  · have k := g.fin h
    rw [if_neg h]
    unfold mxPt
    by_cases h2 : p.e * p.e < (p.x.natAbs : Int)
    · rw [if_pos h2]; exact ptHeight_l p w k.x k.e h2
    · rw [if_neg h2]; exact ptHeight_r p w k.x k.e (by omega)
theorem max3 {P : Program} {w : World} (ts : Array TypeId) (t : TypeId) (x s : Int) : (Builtin.max_ ts t #[.int .i64 x, .int .i64 (-x), .int .i64 s]).run P w = .ok (.int .i64 (mxPt x s)) w := by
  have e : mxPt x s = if s > (if -x > x then -x else x) then s else (if -x > x then -x else x) := by
    unfold mxPt
    by_cases h1 : -x > x
    · rw [if_pos h1]; split <;> split <;> omega
    · rw [if_neg h1]; split <;> split <;> omega
  rw [e]
  by_cases h1 : -x > x
  · by_cases h2 : s > -x
    · simp [Builtin.max_, Builtin.max2, h1, h2]
    · simp [Builtin.max_, Builtin.max2, h1, h2]
  · by_cases h2 : s > x
    · simp [Builtin.max_, Builtin.max2, h1, h2]
    · simp [Builtin.max_, Builtin.max2, h1, h2]
attribute [go_sem 20000] max3

set_option maxHeartbeats 1000000 in
theorem heightPS_yes (a b : Int) (p : P3) (w : World) (g : PtG a b p) : Calls Try.prog 20 #[.agg #[.int .i64 a, .int .i64 b], .agg #[.int .i64 p.x, .int .i64 p.y, .int .i64 p.e]] w (GivesIB w (ptHt p) true) := by
  have c1 := fun W => ptHeight_any p W g.2
  obtain ⟨H, hH⟩ : ∃ H, ptHt p = H := ⟨_, rfl⟩
  rw [hH] at c1 ⊢
  have k1 := fun W => isPtS_on a b p W g
  replace c1 := Lib.hid c1
  replace k1 := Lib.hid k1
  clear hH g
  have h := Below.refl w.heap.size w
  have hA := below_alloc1 w (.cells #[.int .i64 a, .int .i64 b] 27)
  have hxc := Box.new w 27 #[.int .i64 a, .int .i64 b]
  replace h := Below.step h hA
  clear hA
  have hA := below_alloc1 (w.alloc (.cells #[.int .i64 a, .int .i64 b] 27)) (.cells #[.int .i64 p.x, .int .i64 p.y, .int .i64 p.e] 29)
  have hxp := Box.new (w.alloc (.cells #[.int .i64 a, .int .i64 b] 27)) 29 #[.int .i64 p.x, .int .i64 p.y, .int .i64 p.e]
  rw [show (w.alloc (.cells #[.int .i64 a, .int .i64 b] 27)).heap.size = w.heap.size + 1 from by simp] at hxp
  replace h := Below.step h hA
  replace hxc := hxc.kept hA
  clear hA
  obtain ⟨kc0, kc1⟩ := hxc.two
  have lc := hxc.lt
  obtain ⟨kp0, kp1, kp2⟩ := hxp.three
  have lp := hxp.lt
  go_enter Try.func20, Try.ntmps20
  go_wp2_with fail
  refine (k1.out _).mono ?_
  rintro e w1 ⟨rfl, hb⟩
  replace h := Below.step h hb
  replace hxc := hxc.kept hb
  replace hxp := hxp.kept hb
  clear hb kc0 kc1 lc kp0 kp1 kp2 lp
  obtain ⟨kc0, kc1⟩ := hxc.two
  have lc := hxc.lt
  obtain ⟨kp0, kp1, kp2⟩ := hxp.three
  have lp := hxp.lt
  go_wp2_with fail
  refine (c1.out _).mono ?_
  rintro e w2 ⟨rfl, hb⟩
  replace h := Below.step h hb
  replace hxc := hxc.kept hb
  replace hxp := hxp.kept hb
  clear hb kc0 kc1 lc kp0 kp1 kp2 lp
  obtain ⟨kc0, kc1⟩ := hxc.two
  have lc := hxc.lt
  obtain ⟨kp0, kp1, kp2⟩ := hxp.three
  have lp := hxp.lt
  go_wp2_with fail
  go_ret2
  exact ⟨rfl, h⟩


set_option maxHeartbeats 1000000 in
theorem heightPS_no (a b : Int) (p : P3) (w : World) (g : ¬ PtG a b p) : Calls Try.prog 20 #[.agg #[.int .i64 a, .int .i64 b], .agg #[.int .i64 p.x, .int .i64 p.y, .int .i64 p.e]] w (GivesIB w 0 false) := by
  have h := Below.refl w.heap.size w
  have hA := below_alloc1 w (.cells #[.int .i64 a, .int .i64 b] 27)
  have hxc := Box.new w 27 #[.int .i64 a, .int .i64 b]
  replace h := Below.step h hA
  clear hA
  have hA := below_alloc1 (w.alloc (.cells #[.int .i64 a, .int .i64 b] 27)) (.cells #[.int .i64 p.x, .int .i64 p.y, .int .i64 p.e] 29)
  have hxp := Box.new (w.alloc (.cells #[.int .i64 a, .int .i64 b] 27)) 29 #[.int .i64 p.x, .int .i64 p.y, .int .i64 p.e]
  rw [show (w.alloc (.cells #[.int .i64 a, .int .i64 b] 27)).heap.size = w.heap.size + 1 from by simp] at hxp
  replace h := Below.step h hA
  replace hxc := hxc.kept hA
  clear hA
  obtain ⟨kc0, kc1⟩ := hxc.two
  have lc := hxc.lt
  obtain ⟨kp0, kp1, kp2⟩ := hxp.three
  have lp := hxp.lt
  go_enter Try.func20, Try.ntmps20
  go_wp2_with fail
  refine (isPtS_off a b p _ g).mono ?_
  rintro e w1 ⟨rfl, hb⟩
  replace h := Below.step h hb
  replace hxc := hxc.kept hb
  replace hxp := hxp.kept hb
  clear hb kc0 kc1 lc kp0 kp1 kp2 lp
  obtain ⟨kc0, kc1⟩ := hxc.two
  have lc := hxc.lt
  obtain ⟨kp0, kp1, kp2⟩ := hxp.three
  have lp := hxp.lt
  go_wp2_with fail
  go_ret2
  exact ⟨rfl, h⟩


set_option maxHeartbeats 1000000 in
theorem heightPI_inf (a b : Int) (w : World) (g : PtG a b .zero) : Calls Try.prog 21 #[.agg #[.int .i64 a, .int .i64 b], .agg #[.int .i64 0, .int .i64 0, .int .i64 0]] w (GivesIB w 1 true) := by
  have h := Below.refl w.heap.size w
  have hA := below_alloc1 w (.cells #[.int .i64 a, .int .i64 b] 27)
  have hxc := Box.new w 27 #[.int .i64 a, .int .i64 b]
  replace h := Below.step h hA
  clear hA
  have hA := below_alloc1 (w.alloc (.cells #[.int .i64 a, .int .i64 b] 27)) (.cells #[.int .i64 0, .int .i64 0, .int .i64 0] 29)
  have hxp := Box.new (w.alloc (.cells #[.int .i64 a, .int .i64 b] 27)) 29 #[.int .i64 0, .int .i64 0, .int .i64 0]
  rw [show (w.alloc (.cells #[.int .i64 a, .int .i64 b] 27)).heap.size = w.heap.size + 1 from by simp] at hxp
  replace h := Below.step h hA
  replace hxc := hxc.kept hA
  clear hA
  obtain ⟨kc0, kc1⟩ := hxc.two
  have lc := hxc.lt
  obtain ⟨kp0, kp1, kp2⟩ := hxp.three
  have lp := hxp.lt
  go_enter Try.func21, Try.ntmps21
  go_wp2_with fail
  refine (isPtI_on a b .zero _ g).mono ?_
  rintro e w1 ⟨rfl, hb⟩
  replace h := Below.step h hb
  replace hxc := hxc.kept hb
  replace hxp := hxp.kept hb
  clear hb kc0 kc1 lc kp0 kp1 kp2 lp
  obtain ⟨kc0, kc1⟩ := hxc.two
  have lc := hxc.lt
  obtain ⟨kp0, kp1, kp2⟩ := hxp.three
  have lp := hxp.lt
  go_wp2_with fail
  refine (isInf_yes _).mono ?_
  rintro e w2 ⟨rfl, hb⟩
  replace h := Below.step h hb
  replace hxc := hxc.kept hb
  replace hxp := hxp.kept hb
  clear hb kc0 kc1 lc kp0 kp1 kp2 lp
  obtain ⟨kc0, kc1⟩ := hxc.two
  have lc := hxc.lt
  obtain ⟨kp0, kp1, kp2⟩ := hxp.three
  have lp := hxp.lt
  go_wp2_with fail
  go_ret2
  exact ⟨rfl, h⟩


set_option maxHeartbeats 1000000 in
theorem heightPI_fin (a b : Int) (p : P3) (w : World) (g : PtG a b p) (hz : p ≠ .zero) : Calls Try.prog 21 #[.agg #[.int .i64 a, .int .i64 b], .agg #[.int .i64 p.x, .int .i64 p.y, .int .i64 p.e]] w (GivesIB w (mxPt p.x (p.e * p.e)) true) := by
  have k1 := fun W => isPtI_on a b p W g
  have k2 := fun W => isInf_no p W hz
  replace k1 := Lib.hid k1
  replace k2 := Lib.hid k2
  have hx := (g.2.bd).1
  have hsq : 0 ≤ p.e * p.e ∧ p.e * p.e ≤ 400 := mul_bd0 g.2.bd.2.1.1 g.2.bd.2.1.2 g.2.bd.2.1.1 g.2.bd.2.1.2
  clear g hz
  have h := Below.refl w.heap.size w
  have hA := below_alloc1 w (.cells #[.int .i64 a, .int .i64 b] 27)
  have hxc := Box.new w 27 #[.int .i64 a, .int .i64 b]
  replace h := Below.step h hA
  clear hA
  have hA := below_alloc1 (w.alloc (.cells #[.int .i64 a, .int .i64 b] 27)) (.cells #[.int .i64 p.x, .int .i64 p.y, .int .i64 p.e] 29)
  have hxp := Box.new (w.alloc (.cells #[.int .i64 a, .int .i64 b] 27)) 29 #[.int .i64 p.x, .int .i64 p.y, .int .i64 p.e]
  rw [show (w.alloc (.cells #[.int .i64 a, .int .i64 b] 27)).heap.size = w.heap.size + 1 from by simp] at hxp
  replace h := Below.step h hA
  replace hxc := hxc.kept hA
  clear hA
  obtain ⟨kc0, kc1⟩ := hxc.two
  have lc := hxc.lt
  obtain ⟨kp0, kp1, kp2⟩ := hxp.three
  have lp := hxp.lt
  go_enter Try.func21, Try.ntmps21
  go_wp2_with fail
  refine (k1.out _).mono ?_
  rintro e w1 ⟨rfl, hb⟩
  replace h := Below.step h hb
  replace hxc := hxc.kept hb
  replace hxp := hxp.kept hb
  clear hb kc0 kc1 lc kp0 kp1 kp2 lp
  obtain ⟨kc0, kc1⟩ := hxc.two
  have lc := hxc.lt
  obtain ⟨kp0, kp1, kp2⟩ := hxp.three
  have lp := hxp.lt
  go_wp2_with fail
  refine (k2.out _).mono ?_
  rintro e w2 ⟨rfl, hb⟩
  replace h := Below.step h hb
  replace hxc := hxc.kept hb
  replace hxp := hxp.kept hb
  clear hb kc0 kc1 lc kp0 kp1 kp2 lp
  obtain ⟨kc0, kc1⟩ := hxc.two
  have lc := hxc.lt
  obtain ⟨kp0, kp1, kp2⟩ := hxp.three
  have lp := hxp.lt
  go_wp2_with fail
  go_ret2
  exact ⟨rfl, h⟩


set_option maxHeartbeats 1000000 in
theorem heightPI_no (a b : Int) (p : P3) (w : World) (g : ¬ PtG a b p) : Calls Try.prog 21 #[.agg #[.int .i64 a, .int .i64 b], .agg #[.int .i64 p.x, .int .i64 p.y, .int .i64 p.e]] w (GivesIB w 0 false) := by
  have h := Below.refl w.heap.size w
  have hA := below_alloc1 w (.cells #[.int .i64 a, .int .i64 b] 27)
  have hxc := Box.new w 27 #[.int .i64 a, .int .i64 b]
  replace h := Below.step h hA
  clear hA
  have hA := below_alloc1 (w.alloc (.cells #[.int .i64 a, .int .i64 b] 27)) (.cells #[.int .i64 p.x, .int .i64 p.y, .int .i64 p.e] 29)
  have hxp := Box.new (w.alloc (.cells #[.int .i64 a, .int .i64 b] 27)) 29 #[.int .i64 p.x, .int .i64 p.y, .int .i64 p.e]
  rw [show (w.alloc (.cells #[.int .i64 a, .int .i64 b] 27)).heap.size = w.heap.size + 1 from by simp] at hxp
  replace h := Below.step h hA
  replace hxc := hxc.kept hA
  clear hA
  obtain ⟨kc0, kc1⟩ := hxc.two
  have lc := hxc.lt
  obtain ⟨kp0, kp1, kp2⟩ := hxp.three
  have lp := hxp.lt
  go_enter Try.func21, Try.ntmps21
  go_wp2_with fail
  refine (isPtI_off a b p _ g).mono ?_
  rintro e w1 ⟨rfl, hb⟩
  replace h := Below.step h hb
  replace hxc := hxc.kept hb
  replace hxp := hxp.kept hb
  clear hb kc0 kc1 lc kp0 kp1 kp2 lp
  obtain ⟨kc0, kc1⟩ := hxc.two
  have lc := hxc.lt
  obtain ⟨kp0, kp1, kp2⟩ := hxp.three
  have lp := hxp.lt
  go_wp2_with fail
  go_ret2
  exact ⟨rfl, h⟩


theorem heightPI_yes (a b : Int) (p : P3) (w : World) (g : PtG a b p) : Calls Try.prog 21 #[.agg #[.int .i64 a, .int .i64 b], .agg #[.int .i64 p.x, .int .i64 p.y, .int .i64 p.e]] w (GivesIB w (ptHt p) true) := by
  unfold ptHt
  by_cases h : p.e = 0
  · rw [if_pos h]
    have hz := g.2.inf h
    rw [hz] at g ⊢; exact heightPI_inf a b w g
  · rw [if_neg h]; exact heightPI_fin a b p w g (fun k => h (by rw [k]; rfl))

set_option maxHeartbeats 1000000 in
theorem negS_yes (a b : Int) (p : P3) (w : World) (g : PtG a b p) : Calls Try.prog 11 #[.agg #[.int .i64 a, .int .i64 b], .agg #[.int .i64 p.x, .int .i64 p.y, .int .i64 p.e]] w (GivesPB w p.x (-p.y) p.e true) := by
  have k1 := fun W => isPtS_on a b p W g
  replace k1 := Lib.hid k1
  have hy := (g.2.bd).2.2
  clear g
  have h := Below.refl w.heap.size w
  have hA := below_alloc1 w (.cells #[.int .i64 a, .int .i64 b] 27)
  have hxc := Box.new w 27 #[.int .i64 a, .int .i64 b]
  replace h := Below.step h hA
  clear hA
  have hA := below_alloc1 (w.alloc (.cells #[.int .i64 a, .int .i64 b] 27)) (.cells #[.int .i64 p.x, .int .i64 p.y, .int .i64 p.e] 29)
  have hxp := Box.new (w.alloc (.cells #[.int .i64 a, .int .i64 b] 27)) 29 #[.int .i64 p.x, .int .i64 p.y, .int .i64 p.e]
  rw [show (w.alloc (.cells #[.int .i64 a, .int .i64 b] 27)).heap.size = w.heap.size + 1 from by simp] at hxp
  replace h := Below.step h hA
  replace hxc := hxc.kept hA
  clear hA
  have hA := below_alloc1 ((w.alloc (.cells #[.int .i64 a, .int .i64 b] 27)).alloc (.cells #[.int .i64 p.x, .int .i64 p.y, .int .i64 p.e] 29)) (.cells #[.int .i64 0, .int .i64 0, .int .i64 0] 29)
  have hxr := Box.new ((w.alloc (.cells #[.int .i64 a, .int .i64 b] 27)).alloc (.cells #[.int .i64 p.x, .int .i64 p.y, .int .i64 p.e] 29)) 29 #[.int .i64 0, .int .i64 0, .int .i64 0]
  rw [show ((w.alloc (.cells #[.int .i64 a, .int .i64 b] 27)).alloc (.cells #[.int .i64 p.x, .int .i64 p.y, .int .i64 p.e] 29)).heap.size = w.heap.size + 2 from by simp] at hxr
  replace h := Below.step h hA
  replace hxc := hxc.kept hA
  replace hxp := hxp.kept hA
  clear hA
  obtain ⟨kc0, kc1⟩ := hxc.two
  have lc := hxc.lt
  obtain ⟨kp0, kp1, kp2⟩ := hxp.three
  have lp := hxp.lt
  obtain ⟨kr0, kr1, kr2⟩ := hxr.three
  have lr := hxr.lt
  go_enter Try.func11, Try.ntmps11
  go_wp2_with fail
  refine (k1.out _).mono ?_
  rintro e w1 ⟨rfl, hb⟩
  replace h := Below.step h hb
  replace hxc := hxc.kept hb
  replace hxp := hxp.kept hb
  replace hxr := hxr.kept hb
  clear hb kc0 kc1 lc kp0 kp1 kp2 lp kr0 kr1 kr2 lr
  obtain ⟨kc0, kc1⟩ := hxc.two
  have lc := hxc.lt
  obtain ⟨kp0, kp1, kp2⟩ := hxp.three
  have lp := hxp.lt
  obtain ⟨kr0, kr1, kr2⟩ := hxr.three
  have lr := hxr.lt
  go_wp2_with fail
  refine (minusS_any p _ (by omega)).mono ?_
  rintro e w2 ⟨rfl, hb⟩
  replace h := Below.step h hb
  replace hxc := hxc.kept hb
  replace hxp := hxp.kept hb
  replace hxr := hxr.kept hb
  clear hb kc0 kc1 lc kp0 kp1 kp2 lp kr0 kr1 kr2 lr
  obtain ⟨kc0, kc1⟩ := hxc.two
  have lc := hxc.lt
  obtain ⟨kp0, kp1, kp2⟩ := hxp.three
  have lp := hxp.lt
  obtain ⟨kr0, kr1, kr2⟩ := hxr.three
  have lr := hxr.lt
  have fr0 := hxr.free 0
  have fr1 := hxr.free 1
  have fr2 := hxr.free 2
  obtain ⟨sr0, sr1, sr2⟩ := (((hxr.set 0 (.int .i64 p.x)).set 1 (.int .i64 (-p.y))).set 2 (.int .i64 p.e)).three
  go_wp2_with fail
  refine bodyPost_ret (v := .tuple #[.agg #[.int .i64 p.x, .int .i64 (-p.y), .int .i64 p.e], .bool true]) (by simp [results, Try.results11, go_sem, sr0, sr1, sr2]) (by rfl) ⟨by rfl, ?_⟩
  exact below_sets3 h (by omega) _ _ _


set_option maxHeartbeats 1000000 in
theorem negS_no (a b : Int) (p : P3) (w : World) (g : ¬ PtG a b p) : Calls Try.prog 11 #[.agg #[.int .i64 a, .int .i64 b], .agg #[.int .i64 p.x, .int .i64 p.y, .int .i64 p.e]] w (GivesPB w 0 0 0 false) := by
  have h := Below.refl w.heap.size w
  have hA := below_alloc1 w (.cells #[.int .i64 a, .int .i64 b] 27)
  have hxc := Box.new w 27 #[.int .i64 a, .int .i64 b]
  replace h := Below.step h hA
  clear hA
  have hA := below_alloc1 (w.alloc (.cells #[.int .i64 a, .int .i64 b] 27)) (.cells #[.int .i64 p.x, .int .i64 p.y, .int .i64 p.e] 29)
  have hxp := Box.new (w.alloc (.cells #[.int .i64 a, .int .i64 b] 27)) 29 #[.int .i64 p.x, .int .i64 p.y, .int .i64 p.e]
  rw [show (w.alloc (.cells #[.int .i64 a, .int .i64 b] 27)).heap.size = w.heap.size + 1 from by simp] at hxp
  replace h := Below.step h hA
  replace hxc := hxc.kept hA
  clear hA
  have hA := below_alloc1 ((w.alloc (.cells #[.int .i64 a, .int .i64 b] 27)).alloc (.cells #[.int .i64 p.x, .int .i64 p.y, .int .i64 p.e] 29)) (.cells #[.int .i64 0, .int .i64 0, .int .i64 0] 29)
  have hxr := Box.new ((w.alloc (.cells #[.int .i64 a, .int .i64 b] 27)).alloc (.cells #[.int .i64 p.x, .int .i64 p.y, .int .i64 p.e] 29)) 29 #[.int .i64 0, .int .i64 0, .int .i64 0]
  rw [show ((w.alloc (.cells #[.int .i64 a, .int .i64 b] 27)).alloc (.cells #[.int .i64 p.x, .int .i64 p.y, .int .i64 p.e] 29)).heap.size = w.heap.size + 2 from by simp] at hxr
  replace h := Below.step h hA
  replace hxc := hxc.kept hA
  replace hxp := hxp.kept hA
  clear hA
  obtain ⟨kc0, kc1⟩ := hxc.two
  have lc := hxc.lt
  obtain ⟨kp0, kp1, kp2⟩ := hxp.three
  have lp := hxp.lt
  obtain ⟨kr0, kr1, kr2⟩ := hxr.three
  have lr := hxr.lt
  go_enter Try.func11, Try.ntmps11
  go_wp2_with fail
  refine (isPtS_off a b p _ g).mono ?_
  rintro e w1 ⟨rfl, hb⟩
  replace h := Below.step h hb
  replace hxc := hxc.kept hb
  replace hxp := hxp.kept hb
  replace hxr := hxr.kept hb
  clear hb kc0 kc1 lc kp0 kp1 kp2 lp kr0 kr1 kr2 lr
  obtain ⟨kc0, kc1⟩ := hxc.two
  have lc := hxc.lt
  obtain ⟨kp0, kp1, kp2⟩ := hxp.three
  have lp := hxp.lt
  obtain ⟨kr0, kr1, kr2⟩ := hxr.three
  have lr := hxr.lt
  have fr0 := hxr.free 0
  have fr1 := hxr.free 1
  have fr2 := hxr.free 2
  obtain ⟨sr0, sr1, sr2⟩ := (((hxr.set 0 (.int .i64 0)).set 1 (.int .i64 0)).set 2 (.int .i64 0)).three
  go_wp2_with fail
  refine bodyPost_ret (v := .tuple #[.agg #[.int .i64 0, .int .i64 0, .int .i64 0], .bool false]) (by simp [results, Try.results11, go_sem, sr0, sr1, sr2]) (by rfl) ⟨by rfl, ?_⟩
  exact below_sets3 h (by omega) _ _ _


set_option maxHeartbeats 1000000 in
theorem negI_yes (a b : Int) (p : P3) (w : World) (g : PtG a b p) : Calls Try.prog 12 #[.agg #[.int .i64 a, .int .i64 b], .agg #[.int .i64 p.x, .int .i64 p.y, .int .i64 p.e]] w (GivesPB w p.x (-p.y) p.e true) := by
  have k1 := fun W => isPtI_on a b p W g
  replace k1 := Lib.hid k1
  have hy := (g.2.bd).2.2
  clear g
  have h := Below.refl w.heap.size w
  have hA := below_alloc1 w (.cells #[.int .i64 a, .int .i64 b] 27)
  have hxc := Box.new w 27 #[.int .i64 a, .int .i64 b]
  replace h := Below.step h hA
  clear hA
  have hA := below_alloc1 (w.alloc (.cells #[.int .i64 a, .int .i64 b] 27)) (.cells #[.int .i64 p.x, .int .i64 p.y, .int .i64 p.e] 29)
  have hxp := Box.new (w.alloc (.cells #[.int .i64 a, .int .i64 b] 27)) 29 #[.int .i64 p.x, .int .i64 p.y, .int .i64 p.e]
  rw [show (w.alloc (.cells #[.int .i64 a, .int .i64 b] 27)).heap.size = w.heap.size + 1 from by simp] at hxp
  replace h := Below.step h hA
  replace hxc := hxc.kept hA
  clear hA
  have hA := below_alloc1 ((w.alloc (.cells #[.int .i64 a, .int .i64 b] 27)).alloc (.cells #[.int .i64 p.x, .int .i64 p.y, .int .i64 p.e] 29)) (.cells #[.int .i64 0, .int .i64 0, .int .i64 0] 29)
  have hxr := Box.new ((w.alloc (.cells #[.int .i64 a, .int .i64 b] 27)).alloc (.cells #[.int .i64 p.x, .int .i64 p.y, .int .i64 p.e] 29)) 29 #[.int .i64 0, .int .i64 0, .int .i64 0]
  rw [show ((w.alloc (.cells #[.int .i64 a, .int .i64 b] 27)).alloc (.cells #[.int .i64 p.x, .int .i64 p.y, .int .i64 p.e] 29)).heap.size = w.heap.size + 2 from by simp] at hxr
  replace h := Below.step h hA
  replace hxc := hxc.kept hA
  replace hxp := hxp.kept hA
  clear hA
  obtain ⟨kc0, kc1⟩ := hxc.two
  have lc := hxc.lt
  obtain ⟨kp0, kp1, kp2⟩ := hxp.three
  have lp := hxp.lt
  obtain ⟨kr0, kr1, kr2⟩ := hxr.three
  have lr := hxr.lt
  go_enter Try.func12, Try.ntmps12
  go_wp2_with fail
  refine (k1.out _).mono ?_
  rintro e w1 ⟨rfl, hb⟩
  replace h := Below.step h hb
  replace hxc := hxc.kept hb
  replace hxp := hxp.kept hb
  replace hxr := hxr.kept hb
  clear hb kc0 kc1 lc kp0 kp1 kp2 lp kr0 kr1 kr2 lr
  obtain ⟨kc0, kc1⟩ := hxc.two
  have lc := hxc.lt
  obtain ⟨kp0, kp1, kp2⟩ := hxp.three
  have lp := hxp.lt
  obtain ⟨kr0, kr1, kr2⟩ := hxr.three
  have lr := hxr.lt
  go_wp2_with fail
  refine (oppI_any p _ (by omega)).mono ?_
  rintro e w2 ⟨rfl, hb⟩
  replace h := Below.step h hb
  replace hxc := hxc.kept hb
  replace hxp := hxp.kept hb
  replace hxr := hxr.kept hb
  clear hb kc0 kc1 lc kp0 kp1 kp2 lp kr0 kr1 kr2 lr
  obtain ⟨kc0, kc1⟩ := hxc.two
  have lc := hxc.lt
  obtain ⟨kp0, kp1, kp2⟩ := hxp.three
  have lp := hxp.lt
  obtain ⟨kr0, kr1, kr2⟩ := hxr.three
  have lr := hxr.lt
  have fr0 := hxr.free 0
  have fr1 := hxr.free 1
  have fr2 := hxr.free 2
  obtain ⟨sr0, sr1, sr2⟩ := (((hxr.set 0 (.int .i64 p.x)).set 1 (.int .i64 (-p.y))).set 2 (.int .i64 p.e)).three
  go_wp2_with fail
  refine bodyPost_ret (v := .tuple #[.agg #[.int .i64 p.x, .int .i64 (-p.y), .int .i64 p.e], .bool true]) (by simp [results, Try.results12, go_sem, sr0, sr1, sr2]) (by rfl) ⟨by rfl, ?_⟩
  exact below_sets3 h (by omega) _ _ _


set_option maxHeartbeats 1000000 in
theorem negI_no (a b : Int) (p : P3) (w : World) (g : ¬ PtG a b p) : Calls Try.prog 12 #[.agg #[.int .i64 a, .int .i64 b], .agg #[.int .i64 p.x, .int .i64 p.y, .int .i64 p.e]] w (GivesPB w 0 0 0 false) := by
  have h := Below.refl w.heap.size w
  have hA := below_alloc1 w (.cells #[.int .i64 a, .int .i64 b] 27)
  have hxc := Box.new w 27 #[.int .i64 a, .int .i64 b]
  replace h := Below.step h hA
  clear hA
  have hA := below_alloc1 (w.alloc (.cells #[.int .i64 a, .int .i64 b] 27)) (.cells #[.int .i64 p.x, .int .i64 p.y, .int .i64 p.e] 29)
  have hxp := Box.new (w.alloc (.cells #[.int .i64 a, .int .i64 b] 27)) 29 #[.int .i64 p.x, .int .i64 p.y, .int .i64 p.e]
  rw [show (w.alloc (.cells #[.int .i64 a, .int .i64 b] 27)).heap.size = w.heap.size + 1 from by simp] at hxp
  replace h := Below.step h hA
  replace hxc := hxc.kept hA
  clear hA
  have hA := below_alloc1 ((w.alloc (.cells #[.int .i64 a, .int .i64 b] 27)).alloc (.cells #[.int .i64 p.x, .int .i64 p.y, .int .i64 p.e] 29)) (.cells #[.int .i64 0, .int .i64 0, .int .i64 0] 29)
  have hxr := Box.new ((w.alloc (.cells #[.int .i64 a, .int .i64 b] 27)).alloc (.cells #[.int .i64 p.x, .int .i64 p.y, .int .i64 p.e] 29)) 29 #[.int .i64 0, .int .i64 0, .int .i64 0]
  rw [show ((w.alloc (.cells #[.int .i64 a, .int .i64 b] 27)).alloc (.cells #[.int .i64 p.x, .int .i64 p.y, .int .i64 p.e] 29)).heap.size = w.heap.size + 2 from by simp] at hxr
  replace h := Below.step h hA
  replace hxc := hxc.kept hA
  replace hxp := hxp.kept hA
  clear hA
  obtain ⟨kc0, kc1⟩ := hxc.two
  have lc := hxc.lt
  obtain ⟨kp0, kp1, kp2⟩ := hxp.three
  have lp := hxp.lt
  obtain ⟨kr0, kr1, kr2⟩ := hxr.three
  have lr := hxr.lt
  go_enter Try.func12, Try.ntmps12
  go_wp2_with fail
  refine (isPtI_off a b p _ g).mono ?_
  rintro e w1 ⟨rfl, hb⟩
  replace h := Below.step h hb
  replace hxc := hxc.kept hb
  replace hxp := hxp.kept hb
  replace hxr := hxr.kept hb
  clear hb kc0 kc1 lc kp0 kp1 kp2 lp kr0 kr1 kr2 lr
  obtain ⟨kc0, kc1⟩ := hxc.two
  have lc := hxc.lt
  obtain ⟨kp0, kp1, kp2⟩ := hxp.three
  have lp := hxp.lt
  obtain ⟨kr0, kr1, kr2⟩ := hxr.three
  have lr := hxr.lt
  have fr0 := hxr.free 0
  have fr1 := hxr.free 1
  have fr2 := hxr.free 2
  obtain ⟨sr0, sr1, sr2⟩ := (((hxr.set 0 (.int .i64 0)).set 1 (.int .i64 0)).set 2 (.int .i64 0)).three
  go_wp2_with fail
  refine bodyPost_ret (v := .tuple #[.agg #[.int .i64 0, .int .i64 0, .int .i64 0], .bool false]) (by simp [results, Try.results12, go_sem, sr0, sr1, sr2]) (by rfl) ⟨by rfl, ?_⟩
  exact below_sets3 h (by omega) _ _ _

end Go.Proofs.Ytabcnkobojkdhaa
