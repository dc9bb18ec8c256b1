/- The program's IsPointOf (written by wip/gen/pti.py). -/
import Derived.Test.YtokhadhfjbecmaaDoorPtQ
import Derived.Test.YtokhadhfjbecmaaDoorPtForm
import Derived.Test.YtokhadhfjbecmaaDoorEcI
import Derived.Deep.RegionHeld3
import Derived.Deep.DeepCutAuto
import Derived.BigQuiet
import Derived.BigGuard
namespace Go.Proofs.YtokhadhfjbecmaaDoor
open Go.RowKit Go.Joins

set_option maxHeartbeats 1000000 in
theorem isPtI_bad (a b : Int) (p : P3) (w : World) (g : ¬ EcG a b) : Calls Tryd.prog 14 #[.agg #[.int .i64 a, .int .i64 b], .agg #[.int .i64 p.x, .int .i64 p.y, .int .i64 p.e]] w (GivesB w false) := by
  have h := Below.refl w.heap.size w
  have hA := below_alloc1 w (.cells #[.int .i64 a, .int .i64 b] 28)
  have hxc := Box.new w 28 #[.int .i64 a, .int .i64 b]
  replace h := Below.step h hA
  clear hA
  have hA := below_alloc1 (w.alloc (.cells #[.int .i64 a, .int .i64 b] 28)) (.cells #[.int .i64 p.x, .int .i64 p.y, .int .i64 p.e] 30)
  have hxp := Box.new (w.alloc (.cells #[.int .i64 a, .int .i64 b] 28)) 30 #[.int .i64 p.x, .int .i64 p.y, .int .i64 p.e]
  rw [show (w.alloc (.cells #[.int .i64 a, .int .i64 b] 28)).heap.size = w.heap.size + 1 from by simp] at hxp
  replace h := Below.step h hA
  replace hxc := hxc.kept hA
  clear hA
  obtain ⟨kc0, kc1⟩ := hxc.two
  have lc := hxc.lt
  obtain ⟨kp0, kp1, kp2⟩ := hxp.three
  have lp := hxp.lt
  go_enter Tryd.func14, Tryd.ntmps14
  go_wp2_with fail
  refine (isCurveI_no a b _ g).mono ?_
  rintro e w1 ⟨rfl, hb⟩
  replace h := Below.step h hb
  replace hxc := hxc.kept hb
  replace hxp := hxp.kept hb
  clear hb kc0 kc1 lc kp0 kp1 kp2 lp
  obtain ⟨kc0, kc1⟩ := hxc.two
  have lc := hxc.lt
  obtain ⟨kp0, kp1, kp2⟩ := hxp.three
  have lp := hxp.lt
  go_wp2_with fail
  go_ret
  exact ⟨rfl, h⟩


set_option maxHeartbeats 1000000 in
theorem isPtI_inf (a b : Int) (w : World) (g : EcG a b) : Calls Tryd.prog 14 #[.agg #[.int .i64 a, .int .i64 b], .agg #[.int .i64 0, .int .i64 0, .int .i64 0]] w (GivesB w true) := by
  have h := Below.refl w.heap.size w
  have hA := below_alloc1 w (.cells #[.int .i64 a, .int .i64 b] 28)
  have hxc := Box.new w 28 #[.int .i64 a, .int .i64 b]
  replace h := Below.step h hA
  clear hA
  have hA := below_alloc1 (w.alloc (.cells #[.int .i64 a, .int .i64 b] 28)) (.cells #[.int .i64 0, .int .i64 0, .int .i64 0] 30)
  have hxp := Box.new (w.alloc (.cells #[.int .i64 a, .int .i64 b] 28)) 30 #[.int .i64 0, .int .i64 0, .int .i64 0]
  rw [show (w.alloc (.cells #[.int .i64 a, .int .i64 b] 28)).heap.size = w.heap.size + 1 from by simp] at hxp
  replace h := Below.step h hA
  replace hxc := hxc.kept hA
  clear hA
  obtain ⟨kc0, kc1⟩ := hxc.two
  have lc := hxc.lt
  obtain ⟨kp0, kp1, kp2⟩ := hxp.three
  have lp := hxp.lt
  go_enter Tryd.func14, Tryd.ntmps14
  go_wp2_with fail
  refine (isCurveI_yes a b _ g).mono ?_
  rintro e w1 ⟨rfl, hb⟩
  replace h := Below.step h hb
  replace hxc := hxc.kept hb
  replace hxp := hxp.kept hb
  clear hb kc0 kc1 lc kp0 kp1 kp2 lp
  obtain ⟨kc0, kc1⟩ := hxc.two
  have lc := hxc.lt
  obtain ⟨kp0, kp1, kp2⟩ := hxp.three
  have lp := hxp.lt
  go_wp2_with fail
  refine (isInf_yes _).mono ?_
  rintro e w2 ⟨rfl, hb⟩
  replace h := Below.step h hb
  replace hxc := hxc.kept hb
  replace hxp := hxp.kept hb
  clear hb kc0 kc1 lc kp0 kp1 kp2 lp
  obtain ⟨kc0, kc1⟩ := hxc.two
  have lc := hxc.lt
  obtain ⟨kp0, kp1, kp2⟩ := hxp.three
  have lp := hxp.lt
  go_wp2_with fail
  go_ret
  exact ⟨rfl, h⟩


set_option maxHeartbeats 1000000 in
theorem isPtI_pl (a b : Int) (p : P3) (w : World) (g : EcG a b) (hz : p ≠ .zero) (hpl : ¬ Plc p.x p.e) : Calls Tryd.prog 14 #[.agg #[.int .i64 a, .int .i64 b], .agg #[.int .i64 p.x, .int .i64 p.y, .int .i64 p.e]] w (GivesB w false) := by
  have c1 := fun W => place_q p.x p.e W
  rw [decide_eq_false hpl] at c1
  replace c1 := Lib.hid c1
  have k1 := fun W => isCurveI_yes a b W g
  have k2 := fun W => isInf_no p W hz
  replace k1 := Lib.hid k1
  replace k2 := Lib.hid k2
  clear hpl
  clear g hz
  have h := Below.refl w.heap.size w
  have hA := below_alloc1 w (.cells #[.int .i64 a, .int .i64 b] 28)
  have hxc := Box.new w 28 #[.int .i64 a, .int .i64 b]
  replace h := Below.step h hA
  clear hA
  have hA := below_alloc1 (w.alloc (.cells #[.int .i64 a, .int .i64 b] 28)) (.cells #[.int .i64 p.x, .int .i64 p.y, .int .i64 p.e] 30)
  have hxp := Box.new (w.alloc (.cells #[.int .i64 a, .int .i64 b] 28)) 30 #[.int .i64 p.x, .int .i64 p.y, .int .i64 p.e]
  rw [show (w.alloc (.cells #[.int .i64 a, .int .i64 b] 28)).heap.size = w.heap.size + 1 from by simp] at hxp
  replace h := Below.step h hA
  replace hxc := hxc.kept hA
  clear hA
  obtain ⟨kc0, kc1⟩ := hxc.two
  have lc := hxc.lt
  obtain ⟨kp0, kp1, kp2⟩ := hxp.three
  have lp := hxp.lt
  go_enter Tryd.func14, Tryd.ntmps14
  go_wp2_with fail
  refine (k1.out _).mono ?_
  rintro e w1 ⟨rfl, hb⟩
  replace h := Below.step h hb
  replace hxc := hxc.kept hb
  replace hxp := hxp.kept hb
  clear hb kc0 kc1 lc kp0 kp1 kp2 lp
  obtain ⟨kc0, kc1⟩ := hxc.two
  have lc := hxc.lt
  obtain ⟨kp0, kp1, kp2⟩ := hxp.three
  have lp := hxp.lt
  go_wp2_with fail
  refine (k2.out _).mono ?_
  rintro e w2 ⟨rfl, hb⟩
  replace h := Below.step h hb
  replace hxc := hxc.kept hb
  replace hxp := hxp.kept hb
  clear hb kc0 kc1 lc kp0 kp1 kp2 lp
  obtain ⟨kc0, kc1⟩ := hxc.two
  have lc := hxc.lt
  obtain ⟨kp0, kp1, kp2⟩ := hxp.three
  have lp := hxp.lt
  go_wp2_with fail
  go_quiet ((first | (go_at_call 26; exact Calls.quiet_of (c1.out _))))
  go_wp2_with fail
  go_ret
  exact ⟨rfl, Below.drewN' h _⟩


set_option maxHeartbeats 1000000 in
theorem isPtI_y1 (a b : Int) (p : P3) (w : World) (g : EcG a b) (hz : p ≠ .zero) (hpl : Plc p.x p.e) (hy : p.y < -1800000) : Calls Tryd.prog 14 #[.agg #[.int .i64 a, .int .i64 b], .agg #[.int .i64 p.x, .int .i64 p.y, .int .i64 p.e]] w (GivesB w false) := by
  have c1 := fun W => place_q p.x p.e W
  rw [decide_eq_true hpl] at c1
  replace c1 := Lib.hid c1
  have k1 := fun W => isCurveI_yes a b W g
  have k2 := fun W => isInf_no p W hz
  replace k1 := Lib.hid k1
  replace k2 := Lib.hid k2
  clear hpl
  have hd : decide (-1800000 ≤ p.y) = false := decide_eq_false (by omega)
  clear g hz
  have h := Below.refl w.heap.size w
  have hA := below_alloc1 w (.cells #[.int .i64 a, .int .i64 b] 28)
  have hxc := Box.new w 28 #[.int .i64 a, .int .i64 b]
  replace h := Below.step h hA
  clear hA
  have hA := below_alloc1 (w.alloc (.cells #[.int .i64 a, .int .i64 b] 28)) (.cells #[.int .i64 p.x, .int .i64 p.y, .int .i64 p.e] 30)
  have hxp := Box.new (w.alloc (.cells #[.int .i64 a, .int .i64 b] 28)) 30 #[.int .i64 p.x, .int .i64 p.y, .int .i64 p.e]
  rw [show (w.alloc (.cells #[.int .i64 a, .int .i64 b] 28)).heap.size = w.heap.size + 1 from by simp] at hxp
  replace h := Below.step h hA
  replace hxc := hxc.kept hA
  clear hA
  obtain ⟨kc0, kc1⟩ := hxc.two
  have lc := hxc.lt
  obtain ⟨kp0, kp1, kp2⟩ := hxp.three
  have lp := hxp.lt
  go_enter Tryd.func14, Tryd.ntmps14
  go_wp2_with fail
  refine (k1.out _).mono ?_
  rintro e w1 ⟨rfl, hb⟩
  replace h := Below.step h hb
  replace hxc := hxc.kept hb
  replace hxp := hxp.kept hb
  clear hb kc0 kc1 lc kp0 kp1 kp2 lp
  obtain ⟨kc0, kc1⟩ := hxc.two
  have lc := hxc.lt
  obtain ⟨kp0, kp1, kp2⟩ := hxp.three
  have lp := hxp.lt
  go_wp2_with fail
  refine (k2.out _).mono ?_
  rintro e w2 ⟨rfl, hb⟩
  replace h := Below.step h hb
  replace hxc := hxc.kept hb
  replace hxp := hxp.kept hb
  clear hb kc0 kc1 lc kp0 kp1 kp2 lp
  obtain ⟨kc0, kc1⟩ := hxc.two
  have lc := hxc.lt
  obtain ⟨kp0, kp1, kp2⟩ := hxp.three
  have lp := hxp.lt
  go_wp2_with fail
  go_quiet ((first | (go_at_call 26; exact Calls.quiet_of (c1.out _))))
  go_wp2_with fail
  go_ret
  exact ⟨rfl, Below.drewN' h _⟩


set_option maxHeartbeats 1000000 in
theorem isPtI_y2 (a b : Int) (p : P3) (w : World) (g : EcG a b) (hz : p ≠ .zero) (hpl : Plc p.x p.e) (h1 : -1800000 ≤ p.y) (hy : 1800000 < p.y) : Calls Tryd.prog 14 #[.agg #[.int .i64 a, .int .i64 b], .agg #[.int .i64 p.x, .int .i64 p.y, .int .i64 p.e]] w (GivesB w false) := by
  have c1 := fun W => place_q p.x p.e W
  rw [decide_eq_true hpl] at c1
  replace c1 := Lib.hid c1
  have k1 := fun W => isCurveI_yes a b W g
  have k2 := fun W => isInf_no p W hz
  replace k1 := Lib.hid k1
  replace k2 := Lib.hid k2
  clear hpl
  have hd : decide (p.y ≤ 1800000) = false := decide_eq_false (by omega)
  clear g hz
  have h := Below.refl w.heap.size w
  have hA := below_alloc1 w (.cells #[.int .i64 a, .int .i64 b] 28)
  have hxc := Box.new w 28 #[.int .i64 a, .int .i64 b]
  replace h := Below.step h hA
  clear hA
  have hA := below_alloc1 (w.alloc (.cells #[.int .i64 a, .int .i64 b] 28)) (.cells #[.int .i64 p.x, .int .i64 p.y, .int .i64 p.e] 30)
  have hxp := Box.new (w.alloc (.cells #[.int .i64 a, .int .i64 b] 28)) 30 #[.int .i64 p.x, .int .i64 p.y, .int .i64 p.e]
  rw [show (w.alloc (.cells #[.int .i64 a, .int .i64 b] 28)).heap.size = w.heap.size + 1 from by simp] at hxp
  replace h := Below.step h hA
  replace hxc := hxc.kept hA
  clear hA
  obtain ⟨kc0, kc1⟩ := hxc.two
  have lc := hxc.lt
  obtain ⟨kp0, kp1, kp2⟩ := hxp.three
  have lp := hxp.lt
  go_enter Tryd.func14, Tryd.ntmps14
  go_wp2_with fail
  refine (k1.out _).mono ?_
  rintro e w1 ⟨rfl, hb⟩
  replace h := Below.step h hb
  replace hxc := hxc.kept hb
  replace hxp := hxp.kept hb
  clear hb kc0 kc1 lc kp0 kp1 kp2 lp
  obtain ⟨kc0, kc1⟩ := hxc.two
  have lc := hxc.lt
  obtain ⟨kp0, kp1, kp2⟩ := hxp.three
  have lp := hxp.lt
  go_wp2_with fail
  refine (k2.out _).mono ?_
  rintro e w2 ⟨rfl, hb⟩
  replace h := Below.step h hb
  replace hxc := hxc.kept hb
  replace hxp := hxp.kept hb
  clear hb kc0 kc1 lc kp0 kp1 kp2 lp
  obtain ⟨kc0, kc1⟩ := hxc.two
  have lc := hxc.lt
  obtain ⟨kp0, kp1, kp2⟩ := hxp.three
  have lp := hxp.lt
  go_wp2_with fail
  go_quiet ((first | (go_at_call 26; exact Calls.quiet_of (c1.out _))))
  go_wp2_with fail
  go_ret
  exact ⟨rfl, Below.drewN' h _⟩


set_option maxHeartbeats 1000000 in
theorem isPtI_yes (a b : Int) (p : P3) (w : World) (g : EcG a b) (hz : p ≠ .zero) (hpl : Plc p.x p.e) (y1 : -1800000 ≤ p.y) (y2 : p.y ≤ 1800000) (ok : Bool) (hok : ok = (p.y * p.y == ptV a b p.x p.e)) : Calls Tryd.prog 14 #[.agg #[.int .i64 a, .int .i64 b], .agg #[.int .i64 p.x, .int .i64 p.y, .int .i64 p.e]] w (GivesB w ok) := by
  have c1 := fun W => place_any p.x p.e W
  rw [decide_eq_true hpl] at c1
  replace c1 := Lib.hid c1
  have k1 := fun W => isCurveI_yes a b W g
  have k2 := fun W => isInf_no p W hz
  replace k1 := Lib.hid k1
  replace k2 := Lib.hid k2
  obtain ⟨V, hV⟩ : ∃ V, ptV a b p.x p.e = V := ⟨_, rfl⟩
  rw [hV] at hok
  have c2 := fun W => squareOfY_any a b p.x p.e V W g.1 g.2.1 hpl.1 hpl.2.1 hV
  replace c2 := Lib.hid c2
  have hsq := fr_mul_bd y1 y2 y1 y2
  have ew : IntKind.i64.wrap (p.y * p.y) = p.y * p.y := IntWalk.i64_in _ (by omega)
  replace hok := Lib.hid hok
  clear hV hpl
  clear g hz
  have h := Below.refl w.heap.size w
  have hA := below_alloc1 w (.cells #[.int .i64 a, .int .i64 b] 28)
  have hxc := Box.new w 28 #[.int .i64 a, .int .i64 b]
  replace h := Below.step h hA
  clear hA
  have hA := below_alloc1 (w.alloc (.cells #[.int .i64 a, .int .i64 b] 28)) (.cells #[.int .i64 p.x, .int .i64 p.y, .int .i64 p.e] 30)
  have hxp := Box.new (w.alloc (.cells #[.int .i64 a, .int .i64 b] 28)) 30 #[.int .i64 p.x, .int .i64 p.y, .int .i64 p.e]
  rw [show (w.alloc (.cells #[.int .i64 a, .int .i64 b] 28)).heap.size = w.heap.size + 1 from by simp] at hxp
  replace h := Below.step h hA
  replace hxc := hxc.kept hA
  clear hA
  obtain ⟨kc0, kc1⟩ := hxc.two
  have lc := hxc.lt
  obtain ⟨kp0, kp1, kp2⟩ := hxp.three
  have lp := hxp.lt
  go_enter Tryd.func14, Tryd.ntmps14
  go_wp2_with fail
  refine (k1.out _).mono ?_
  rintro e w1 ⟨rfl, hb⟩
  replace h := Below.step h hb
  replace hxc := hxc.kept hb
  replace hxp := hxp.kept hb
  clear hb kc0 kc1 lc kp0 kp1 kp2 lp
  obtain ⟨kc0, kc1⟩ := hxc.two
  have lc := hxc.lt
  obtain ⟨kp0, kp1, kp2⟩ := hxp.three
  have lp := hxp.lt
  go_wp2_with fail
  refine (k2.out _).mono ?_
  rintro e w2 ⟨rfl, hb⟩
  replace h := Below.step h hb
  replace hxc := hxc.kept hb
  replace hxp := hxp.kept hb
  clear hb kc0 kc1 lc kp0 kp1 kp2 lp
  obtain ⟨kc0, kc1⟩ := hxc.two
  have lc := hxc.lt
  obtain ⟨kp0, kp1, kp2⟩ := hxp.three
  have lp := hxp.lt
  go_upto_region 5 with fail
  have KM : ∀ (W : World), Below w2.heap.size w2 W → (W.cell? ⟨w.heap.size, 0, none⟩ = some (.int .i64 a) ∧ W.cell? ⟨w.heap.size, 1, none⟩ = some (.int .i64 b) ∧ W.cell? ⟨(w.heap.size + 1), 0, none⟩ = some (.int .i64 p.x) ∧ W.cell? ⟨(w.heap.size + 1), 1, none⟩ = some (.int .i64 p.y) ∧ W.cell? ⟨(w.heap.size + 1), 2, none⟩ = some (.int .i64 p.e) ∧ Below w2.heap.size w2 W) := fun W hW => ⟨(hxc.kept hW).two.1, (hxc.kept hW).two.2, (hxp.kept hW).three.1, (hxp.kept hW).three.2.1, (hxp.kept hW).three.2.2, hW⟩
  have KC : ∀ (W W' : World), Below W.heap.size W W' → (W.cell? ⟨w.heap.size, 0, none⟩ = some (.int .i64 a) ∧ W.cell? ⟨w.heap.size, 1, none⟩ = some (.int .i64 b) ∧ W.cell? ⟨(w.heap.size + 1), 0, none⟩ = some (.int .i64 p.x) ∧ W.cell? ⟨(w.heap.size + 1), 1, none⟩ = some (.int .i64 p.y) ∧ W.cell? ⟨(w.heap.size + 1), 2, none⟩ = some (.int .i64 p.e) ∧ Below w2.heap.size w2 W) → (W'.cell? ⟨w.heap.size, 0, none⟩ = some (.int .i64 a) ∧ W'.cell? ⟨w.heap.size, 1, none⟩ = some (.int .i64 b) ∧ W'.cell? ⟨(w.heap.size + 1), 0, none⟩ = some (.int .i64 p.x) ∧ W'.cell? ⟨(w.heap.size + 1), 1, none⟩ = some (.int .i64 p.y) ∧ W'.cell? ⟨(w.heap.size + 1), 2, none⟩ = some (.int .i64 p.e) ∧ Below w2.heap.size w2 W') := fun W W' hb ⟨_, _, _, _, _, hW⟩ => KM _ (Below.step hW hb)
  have KA : ∀ (W : World) (o : Obj), (W.cell? ⟨w.heap.size, 0, none⟩ = some (.int .i64 a) ∧ W.cell? ⟨w.heap.size, 1, none⟩ = some (.int .i64 b) ∧ W.cell? ⟨(w.heap.size + 1), 0, none⟩ = some (.int .i64 p.x) ∧ W.cell? ⟨(w.heap.size + 1), 1, none⟩ = some (.int .i64 p.y) ∧ W.cell? ⟨(w.heap.size + 1), 2, none⟩ = some (.int .i64 p.e) ∧ Below w2.heap.size w2 W) → ((W.alloc o).cell? ⟨w.heap.size, 0, none⟩ = some (.int .i64 a) ∧ (W.alloc o).cell? ⟨w.heap.size, 1, none⟩ = some (.int .i64 b) ∧ (W.alloc o).cell? ⟨(w.heap.size + 1), 0, none⟩ = some (.int .i64 p.x) ∧ (W.alloc o).cell? ⟨(w.heap.size + 1), 1, none⟩ = some (.int .i64 p.y) ∧ (W.alloc o).cell? ⟨(w.heap.size + 1), 2, none⟩ = some (.int .i64 p.e) ∧ Below w2.heap.size w2 (W.alloc o)) := fun W o ⟨_, _, _, _, _, hW⟩ => KM _ (Below.step hW (below_alloc1 _ _))
  have KD : ∀ (W : World), (W.cell? ⟨w.heap.size, 0, none⟩ = some (.int .i64 a) ∧ W.cell? ⟨w.heap.size, 1, none⟩ = some (.int .i64 b) ∧ W.cell? ⟨(w.heap.size + 1), 0, none⟩ = some (.int .i64 p.x) ∧ W.cell? ⟨(w.heap.size + 1), 1, none⟩ = some (.int .i64 p.y) ∧ W.cell? ⟨(w.heap.size + 1), 2, none⟩ = some (.int .i64 p.e) ∧ Below w2.heap.size w2 W) → (W.drew.cell? ⟨w.heap.size, 0, none⟩ = some (.int .i64 a) ∧ W.drew.cell? ⟨w.heap.size, 1, none⟩ = some (.int .i64 b) ∧ W.drew.cell? ⟨(w.heap.size + 1), 0, none⟩ = some (.int .i64 p.x) ∧ W.drew.cell? ⟨(w.heap.size + 1), 1, none⟩ = some (.int .i64 p.y) ∧ W.drew.cell? ⟨(w.heap.size + 1), 2, none⟩ = some (.int .i64 p.e) ∧ Below w2.heap.size w2 W.drew) := fun W ⟨_, _, _, _, _, hW⟩ => KM _ (Below.drewN' hW 1)
  have KB : ∀ (W : World), (W.cell? ⟨w.heap.size, 0, none⟩ = some (.int .i64 a) ∧ W.cell? ⟨w.heap.size, 1, none⟩ = some (.int .i64 b) ∧ W.cell? ⟨(w.heap.size + 1), 0, none⟩ = some (.int .i64 p.x) ∧ W.cell? ⟨(w.heap.size + 1), 1, none⟩ = some (.int .i64 p.y) ∧ W.cell? ⟨(w.heap.size + 1), 2, none⟩ = some (.int .i64 p.e) ∧ Below w2.heap.size w2 W) → Below w2.heap.size w2 W := fun W ⟨_, _, _, _, _, hW⟩ => hW
  have KM0 := KM w2.drew ⟨rfl, rfl, rfl, Nat.le_refl _, fun _ _ => rfl⟩
  have KM00 := KM _ (Below.refl _ _)
  replace KC := Lib.hid KC
  replace KA := Lib.hid KA
  replace KD := Lib.hid KD
  replace KB := Lib.hid KB
  clear KM kc0 kc1 lc kp0 kp1 kp2 lp
  go_cut [4] (fun s4 wx => s4 = .bool (p.y * p.y == V) ∧ Below w2.heap.size w2 wx)
  case first =>
    go_region_held3 (fun w' => w'.cell? ⟨w.heap.size, 0, none⟩ = some (.int .i64 a) ∧ w'.cell? ⟨w.heap.size, 1, none⟩ = some (.int .i64 b) ∧ w'.cell? ⟨(w.heap.size + 1), 0, none⟩ = some (.int .i64 p.x) ∧ w'.cell? ⟨(w.heap.size + 1), 1, none⟩ = some (.int .i64 p.y) ∧ w'.cell? ⟨(w.heap.size + 1), 2, none⟩ = some (.int .i64 p.e) ∧ Below w2.heap.size w2 w') ((first | (with_reducible assumption) | ((with_reducible refine KD.out _ ?_); (with_reducible assumption)) | ((with_reducible refine KA.out _ _ ?_); (first | (with_reducible assumption) | ((with_reducible refine KD.out _ ?_); (with_reducible assumption)))) | ((with_reducible refine KC.out _ _ ?_ ?_); (with_reducible assumption); (with_reducible assumption))))
      (first
        | (go_at_call 26; (with_reducible refine (c1.out _).mono ?_); rintro e wC0 ⟨rfl, hbC⟩; have hS0 : wC0.cell? ⟨w.heap.size, 0, none⟩ = some (.int .i64 a) ∧ wC0.cell? ⟨w.heap.size, 1, none⟩ = some (.int .i64 b) ∧ wC0.cell? ⟨(w.heap.size + 1), 0, none⟩ = some (.int .i64 p.x) ∧ wC0.cell? ⟨(w.heap.size + 1), 1, none⟩ = some (.int .i64 p.y) ∧ wC0.cell? ⟨(w.heap.size + 1), 2, none⟩ = some (.int .i64 p.e) ∧ Below w2.heap.size w2 wC0 := KC.out _ _ hbC (by assumption))
        | (go_at_call 27; (with_reducible refine (c2.out _).mono ?_); rintro e wC1 ⟨rfl, hbC⟩; have hS1 : wC1.cell? ⟨w.heap.size, 0, none⟩ = some (.int .i64 a) ∧ wC1.cell? ⟨w.heap.size, 1, none⟩ = some (.int .i64 b) ∧ wC1.cell? ⟨(w.heap.size + 1), 0, none⟩ = some (.int .i64 p.x) ∧ wC1.cell? ⟨(w.heap.size + 1), 1, none⟩ = some (.int .i64 p.y) ∧ wC1.cell? ⟨(w.heap.size + 1), 2, none⟩ = some (.int .i64 p.e) ∧ Below w2.heap.size w2 wC1 := KC.out _ _ hbC (by assumption)))
    all_goals (go_wp2_with fail; go_meet)
    all_goals refine ⟨(by first | with_reducible rfl | rw [ew]), KB.out _ ?_⟩
    all_goals (first | (with_reducible assumption) | ((with_reducible refine KD.out _ ?_); (with_reducible assumption)))
  case rest =>
  obtain ⟨rfl, hb⟩ := hcut
  clear KM0 KM00 KC KA KD KB
  replace h := Below.step h hb
  replace hxc := hxc.kept hb
  replace hxp := hxp.kept hb
  clear hb
  obtain ⟨kc0, kc1⟩ := hxc.two
  have lc := hxc.lt
  obtain ⟨kp0, kp1, kp2⟩ := hxp.three
  have lp := hxp.lt
  go_wp2_with fail
  rw [hok.out]
  go_ret
  exact ⟨rfl, h⟩


theorem isPtI_any (a b : Int) (p : P3) (w : World) : Calls Tryd.prog 14 #[.agg #[.int .i64 a, .int .i64 b], .agg #[.int .i64 p.x, .int .i64 p.y, .int .i64 p.e]] w (GivesB w (decide (PtG a b p))) := by
  by_cases g : EcG a b
  · by_cases hz : p = .zero
    · subst hz; rw [decide_eq_true (show PtG a b .zero from ⟨g, .inl rfl⟩)]; exact isPtI_inf a b w g
    · have fin : PtG a b p → Fin3 a b p := fun h => h.2.elim (fun k => absurd k hz) id
      by_cases hp : Plc p.x p.e
      · by_cases y1 : -1800000 ≤ p.y
        · by_cases y2 : p.y ≤ 1800000
          · refine isPtI_yes a b p w g hz hp y1 y2 _ ?_
            by_cases hv : p.y * p.y = ptV a b p.x p.e
            · rw [decide_eq_true (show PtG a b p from ⟨g, .inr ⟨hp.1, hp.2.1, ⟨y1, y2⟩, hp.2.2, hv⟩⟩)]; exact (beq_iff_eq.2 hv).symm
            · rw [decide_eq_false fun h => hv (fin h).v]; exact (beq_eq_false_iff_ne.2 hv).symm
          · rw [decide_eq_false fun h => y2 (fin h).y.2]; exact isPtI_y2 a b p w g hz hp y1 (by omega)
        · rw [decide_eq_false fun h => y1 (fin h).y.1]; exact isPtI_y1 a b p w g hz hp (by omega)
      · rw [decide_eq_false fun h => hp ⟨(fin h).x, (fin h).e, (fin h).c⟩]; exact isPtI_pl a b p w g hz hp
  · rw [decide_eq_false fun h => g h.1]; exact isPtI_bad a b p w g
theorem isPtI_on (a b : Int) (p : P3) (w : World) (g : PtG a b p) : Calls Tryd.prog 14 #[.agg #[.int .i64 a, .int .i64 b], .agg #[.int .i64 p.x, .int .i64 p.y, .int .i64 p.e]] w (GivesB w true) := by
  have := isPtI_any a b p w; rwa [decide_eq_true g] at this
theorem isPtI_off (a b : Int) (p : P3) (w : World) (g : ¬ PtG a b p) : Calls Tryd.prog 14 #[.agg #[.int .i64 a, .int .i64 b], .agg #[.int .i64 p.x, .int .i64 p.y, .int .i64 p.e]] w (GivesB w false) := by
  have := isPtI_any a b p w; rwa [decide_eq_false g] at this
end Go.Proofs.YtokhadhfjbecmaaDoor
