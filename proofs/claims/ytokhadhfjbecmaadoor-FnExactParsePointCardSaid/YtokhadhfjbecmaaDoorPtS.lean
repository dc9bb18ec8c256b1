/- The model's ptValue, ptOn (written by wip/gen/pts.py). -/
import Derived.Test.YtokhadhfjbecmaaDoorPtBox
import Derived.Test.YtokhadhfjbecmaaDoorEcS
import Derived.Deep.RegionHeld3
import Derived.Deep.DeepCutAuto
namespace Go.Proofs.YtokhadhfjbecmaaDoor
open Go.RowKit Go.Joins

set_option maxHeartbeats 1000000 in
theorem ptValue_any (a b x u : Int) (w : World) (ha : -1000 ≤ a ∧ a ≤ 1000) (hb : -10000 ≤ b ∧ b ≤ 10000) (hx : -10000 ≤ x ∧ x ≤ 10000) (hu : 1 ≤ u ∧ u ≤ 20) (V : Int) (hV : ptV a b x u = V) : Calls Tryd.prog 44 #[.agg #[.int .i64 a, .int .i64 b], .int .i64 x, .int .i64 u] w (GivesI w V) := by
  obtain ⟨⟨p1, p2⟩, ⟨p3, p4⟩, ⟨p5, p6⟩, ⟨p7, p8⟩, ⟨q1, q2⟩, ⟨q3, q4⟩, ⟨q5, q6⟩, ⟨q7, q8⟩⟩ := ptV_bd ha hb hx hu
  have hu2 := (ptE_bd hu).1
  replace hV := Lib.hid hV
  have h := Below.refl w.heap.size w
  have hA := below_alloc1 w (.cells #[.int .i64 a, .int .i64 b] 28)
  have hxc := Box.new w 28 #[.int .i64 a, .int .i64 b]
  replace h := Below.step h hA
  clear hA
  obtain ⟨kc0, kc1⟩ := hxc.two
  have lc := hxc.lt
  go_enter Tryd.func44, Tryd.ntmps44
  go_wp2_with fail
  go_ret
  exact ⟨congrArg (fun z => Ending.returned (.int .i64 z)) hV.out, h⟩


set_option maxHeartbeats 1000000 in
theorem ptOnS_0 (a b : Int) (w : World)  : Calls Tryd.prog 24 #[.agg #[.int .i64 a, .int .i64 b], .agg #[.int .i64 0, .int .i64 0, .int .i64 0]] w (GivesB w true) := by
  have h := Below.refl w.heap.size w
  have hA := below_alloc1 w (.cells #[.int .i64 a, .int .i64 b] 28)
  have hxc := Box.new w 28 #[.int .i64 a, .int .i64 b]
  replace h := Below.step h hA
  clear hA
  have hA := below_alloc1 (w.alloc (.cells #[.int .i64 a, .int .i64 b] 28)) (.cells #[.int .i64 0, .int .i64 0, .int .i64 0] 30)
  have hxp := Box.new (w.alloc (.cells #[.int .i64 a, .int .i64 b] 28)) 30 #[.int .i64 0, .int .i64 0, .int .i64 0]
  rw [show (w.alloc (.cells #[.int .i64 a, .int .i64 b] 28)).heap.size = w.heap.size + 1 from by simp] at hxp
  replace h := Below.step h hA
  replace hxc := hxc.kept hA
  clear hA
  obtain ⟨kc0, kc1⟩ := hxc.two
  have lc := hxc.lt
  obtain ⟨kp0, kp1, kp2⟩ := hxp.three
  have lp := hxp.lt
  go_enter Tryd.func24, Tryd.ntmps24
  go_wp2_with fail
  go_ret
  exact ⟨rfl, h⟩


set_option maxHeartbeats 1000000 in
theorem ptOnS_0x (a b x y : Int) (w : World) (h0 : x ≠ 0) : Calls Tryd.prog 24 #[.agg #[.int .i64 a, .int .i64 b], .agg #[.int .i64 x, .int .i64 y, .int .i64 0]] w (GivesB w false) := by
  have e0 : (x == 0) = false := by simp [h0]
  clear h0
  have h := Below.refl w.heap.size w
  have hA := below_alloc1 w (.cells #[.int .i64 a, .int .i64 b] 28)
  have hxc := Box.new w 28 #[.int .i64 a, .int .i64 b]
  replace h := Below.step h hA
  clear hA
  have hA := below_alloc1 (w.alloc (.cells #[.int .i64 a, .int .i64 b] 28)) (.cells #[.int .i64 x, .int .i64 y, .int .i64 0] 30)
  have hxp := Box.new (w.alloc (.cells #[.int .i64 a, .int .i64 b] 28)) 30 #[.int .i64 x, .int .i64 y, .int .i64 0]
  rw [show (w.alloc (.cells #[.int .i64 a, .int .i64 b] 28)).heap.size = w.heap.size + 1 from by simp] at hxp
  replace h := Below.step h hA
  replace hxc := hxc.kept hA
  clear hA
  obtain ⟨kc0, kc1⟩ := hxc.two
  have lc := hxc.lt
  obtain ⟨kp0, kp1, kp2⟩ := hxp.three
  have lp := hxp.lt
  go_enter Tryd.func24, Tryd.ntmps24
  go_wp2_with fail
  go_ret
  exact ⟨rfl, h⟩


set_option maxHeartbeats 1000000 in
theorem ptOnS_0y (a b y : Int) (w : World) (h0 : y ≠ 0) : Calls Tryd.prog 24 #[.agg #[.int .i64 a, .int .i64 b], .agg #[.int .i64 0, .int .i64 y, .int .i64 0]] w (GivesB w false) := by
  have e0 : (y == 0) = false := by simp [h0]
  clear h0
  have h := Below.refl w.heap.size w
  have hA := below_alloc1 w (.cells #[.int .i64 a, .int .i64 b] 28)
  have hxc := Box.new w 28 #[.int .i64 a, .int .i64 b]
  replace h := Below.step h hA
  clear hA
  have hA := below_alloc1 (w.alloc (.cells #[.int .i64 a, .int .i64 b] 28)) (.cells #[.int .i64 0, .int .i64 y, .int .i64 0] 30)
  have hxp := Box.new (w.alloc (.cells #[.int .i64 a, .int .i64 b] 28)) 30 #[.int .i64 0, .int .i64 y, .int .i64 0]
  rw [show (w.alloc (.cells #[.int .i64 a, .int .i64 b] 28)).heap.size = w.heap.size + 1 from by simp] at hxp
  replace h := Below.step h hA
  replace hxc := hxc.kept hA
  clear hA
  obtain ⟨kc0, kc1⟩ := hxc.two
  have lc := hxc.lt
  obtain ⟨kp0, kp1, kp2⟩ := hxp.three
  have lp := hxp.lt
  go_enter Tryd.func24, Tryd.ntmps24
  go_wp2_with fail
  go_ret
  exact ⟨rfl, h⟩


set_option maxHeartbeats 1000000 in
theorem ptOnS_x (a b x y e : Int) (w : World) (h0 : e ≠ 0) (g : x < -10000 ∨ 10000 < x) : Calls Tryd.prog 24 #[.agg #[.int .i64 a, .int .i64 b], .agg #[.int .i64 x, .int .i64 y, .int .i64 e]] w (GivesB w false) := by
  have e0 : (e == 0) = false := by simp [h0]
  clear h0
  have h := Below.refl w.heap.size w
  have hA := below_alloc1 w (.cells #[.int .i64 a, .int .i64 b] 28)
  have hxc := Box.new w 28 #[.int .i64 a, .int .i64 b]
  replace h := Below.step h hA
  clear hA
  have hA := below_alloc1 (w.alloc (.cells #[.int .i64 a, .int .i64 b] 28)) (.cells #[.int .i64 x, .int .i64 y, .int .i64 e] 30)
  have hxp := Box.new (w.alloc (.cells #[.int .i64 a, .int .i64 b] 28)) 30 #[.int .i64 x, .int .i64 y, .int .i64 e]
  rw [show (w.alloc (.cells #[.int .i64 a, .int .i64 b] 28)).heap.size = w.heap.size + 1 from by simp] at hxp
  replace h := Below.step h hA
  replace hxc := hxc.kept hA
  clear hA
  obtain ⟨kc0, kc1⟩ := hxc.two
  have lc := hxc.lt
  obtain ⟨kp0, kp1, kp2⟩ := hxp.three
  have lp := hxp.lt
  go_enter Tryd.func24, Tryd.ntmps24
  go_wp2_with fail
  go_quiet ((first | (go_at_call 30; refine qleft (l1In_yes _ _ _ _ ?_ ?_) <;> omega) | (go_at_call 30; refine qleft (l1In_no _ _ _ _ ?_); omega)))
  go_wp2_with fail
  go_ret
  exact ⟨rfl, Below.drewN' h _⟩


set_option maxHeartbeats 1000000 in
theorem ptOnS_e (a b x y e : Int) (w : World) (h0 : e ≠ 0) (hx : -10000 ≤ x ∧ x ≤ 10000) (g : e < 1 ∨ 20 < e) : Calls Tryd.prog 24 #[.agg #[.int .i64 a, .int .i64 b], .agg #[.int .i64 x, .int .i64 y, .int .i64 e]] w (GivesB w false) := by
  obtain ⟨x1, x2⟩ := hx
  have e0 : (e == 0) = false := by simp [h0]
  clear h0
  have h := Below.refl w.heap.size w
  have hA := below_alloc1 w (.cells #[.int .i64 a, .int .i64 b] 28)
  have hxc := Box.new w 28 #[.int .i64 a, .int .i64 b]
  replace h := Below.step h hA
  clear hA
  have hA := below_alloc1 (w.alloc (.cells #[.int .i64 a, .int .i64 b] 28)) (.cells #[.int .i64 x, .int .i64 y, .int .i64 e] 30)
  have hxp := Box.new (w.alloc (.cells #[.int .i64 a, .int .i64 b] 28)) 30 #[.int .i64 x, .int .i64 y, .int .i64 e]
  rw [show (w.alloc (.cells #[.int .i64 a, .int .i64 b] 28)).heap.size = w.heap.size + 1 from by simp] at hxp
  replace h := Below.step h hA
  replace hxc := hxc.kept hA
  clear hA
  obtain ⟨kc0, kc1⟩ := hxc.two
  have lc := hxc.lt
  obtain ⟨kp0, kp1, kp2⟩ := hxp.three
  have lp := hxp.lt
  go_enter Tryd.func24, Tryd.ntmps24
  go_wp2_with fail
  go_quiet ((first | (go_at_call 30; refine qleft (l1In_yes _ _ _ _ ?_ ?_) <;> omega) | (go_at_call 30; refine qleft (l1In_no _ _ _ _ ?_); omega)))
  go_wp2_with fail
  go_ret
  exact ⟨rfl, Below.drewN' h _⟩


set_option maxHeartbeats 1000000 in
theorem ptOnS_y (a b x y e : Int) (w : World) (h0 : e ≠ 0) (hx : -10000 ≤ x ∧ x ≤ 10000) (he : 1 ≤ e ∧ e ≤ 20) (g : y < -10000000 ∨ 10000000 < y) : Calls Tryd.prog 24 #[.agg #[.int .i64 a, .int .i64 b], .agg #[.int .i64 x, .int .i64 y, .int .i64 e]] w (GivesB w false) := by
  obtain ⟨x1, x2⟩ := hx
  obtain ⟨e1, e2⟩ := he
  have e0 : (e == 0) = false := by simp [h0]
  clear h0
  have h := Below.refl w.heap.size w
  have hA := below_alloc1 w (.cells #[.int .i64 a, .int .i64 b] 28)
  have hxc := Box.new w 28 #[.int .i64 a, .int .i64 b]
  replace h := Below.step h hA
  clear hA
  have hA := below_alloc1 (w.alloc (.cells #[.int .i64 a, .int .i64 b] 28)) (.cells #[.int .i64 x, .int .i64 y, .int .i64 e] 30)
  have hxp := Box.new (w.alloc (.cells #[.int .i64 a, .int .i64 b] 28)) 30 #[.int .i64 x, .int .i64 y, .int .i64 e]
  rw [show (w.alloc (.cells #[.int .i64 a, .int .i64 b] 28)).heap.size = w.heap.size + 1 from by simp] at hxp
  replace h := Below.step h hA
  replace hxc := hxc.kept hA
  clear hA
  obtain ⟨kc0, kc1⟩ := hxc.two
  have lc := hxc.lt
  obtain ⟨kp0, kp1, kp2⟩ := hxp.three
  have lp := hxp.lt
  go_enter Tryd.func24, Tryd.ntmps24
  go_wp2_with fail
  go_quiet ((first | (go_at_call 30; refine qleft (l1In_yes _ _ _ _ ?_ ?_) <;> omega) | (go_at_call 30; refine qleft (l1In_no _ _ _ _ ?_); omega)))
  go_wp2_with fail
  go_ret
  exact ⟨rfl, Below.drewN' h _⟩


set_option maxHeartbeats 1000000 in
theorem ptOnS_g (a b x y e : Int) (w : World) (h0 : e ≠ 0) (hx : -10000 ≤ x ∧ x ≤ 10000) (he : 1 ≤ e ∧ e ≤ 20) (hy : -10000000 ≤ y ∧ y ≤ 10000000) (G : Nat) (hG : Nat.gcd x.natAbs e.natAbs = G) (g : G ≠ 1) : Calls Tryd.prog 24 #[.agg #[.int .i64 a, .int .i64 b], .agg #[.int .i64 x, .int .i64 y, .int .i64 e]] w (GivesB w false) := by
  obtain ⟨x1, x2⟩ := hx
  obtain ⟨e1, e2⟩ := he
  obtain ⟨y1, y2⟩ := hy
  have c1 := fun W => l1Abs_any x W (by omega) (by omega)
  replace c1 := Lib.hid c1
  have c2 := fun W => gcdS_any x e W (by omega) (by omega) G hG
  replace c2 := Lib.hid c2
  clear hG
  have e4 : (((G : Nat) : Int) != 1) = true := by rw [bne_iff_ne]; omega
  clear g
  have e0 : (e == 0) = false := by simp [h0]
  clear h0
  have h := Below.refl w.heap.size w
  have hA := below_alloc1 w (.cells #[.int .i64 a, .int .i64 b] 28)
  have hxc := Box.new w 28 #[.int .i64 a, .int .i64 b]
  replace h := Below.step h hA
  clear hA
  have hA := below_alloc1 (w.alloc (.cells #[.int .i64 a, .int .i64 b] 28)) (.cells #[.int .i64 x, .int .i64 y, .int .i64 e] 30)
  have hxp := Box.new (w.alloc (.cells #[.int .i64 a, .int .i64 b] 28)) 30 #[.int .i64 x, .int .i64 y, .int .i64 e]
  rw [show (w.alloc (.cells #[.int .i64 a, .int .i64 b] 28)).heap.size = w.heap.size + 1 from by simp] at hxp
  replace h := Below.step h hA
  replace hxc := hxc.kept hA
  clear hA
  obtain ⟨kc0, kc1⟩ := hxc.two
  have lc := hxc.lt
  obtain ⟨kp0, kp1, kp2⟩ := hxp.three
  have lp := hxp.lt
  go_enter Tryd.func24, Tryd.ntmps24
  go_wp2_with fail
  go_quiet ((first | (go_at_call 30; refine qleft (l1In_yes _ _ _ _ ?_ ?_) <;> omega) | (go_at_call 30; refine qleft (l1In_no _ _ _ _ ?_); omega) | (go_at_call 43; exact qleft (c1.out _)) | (go_at_call 42; exact qleft (c2.out _))))
  go_wp2_with fail
  go_ret
  exact ⟨rfl, Below.drewN' h _⟩


set_option maxHeartbeats 1000000 in
theorem ptOnS_yes (a b x y e : Int) (w : World) (ha : -1000 ≤ a ∧ a ≤ 1000) (hb : -10000 ≤ b ∧ b ≤ 10000) (hx : -10000 ≤ x ∧ x ≤ 10000) (he : 1 ≤ e ∧ e ≤ 20) (hy : -10000000 ≤ y ∧ y ≤ 10000000) (G : Nat) (hG : Nat.gcd x.natAbs e.natAbs = G) (g : G = 1) (ok : Bool) (hok : ok = (y * y == ptV a b x e)) : Calls Tryd.prog 24 #[.agg #[.int .i64 a, .int .i64 b], .agg #[.int .i64 x, .int .i64 y, .int .i64 e]] w (GivesB w ok) := by
  obtain ⟨V, hV⟩ : ∃ V, ptV a b x e = V := ⟨_, rfl⟩
  rw [hV] at hok
  have key := fun W => ptValue_any a b x e W ha hb hx he V hV
  replace key := Lib.hid key
  have hsq := fr_mul_bd hy.1 hy.2 hy.1 hy.2
  obtain ⟨x1, x2⟩ := hx
  obtain ⟨e1, e2⟩ := he
  obtain ⟨y1, y2⟩ := hy
  have c1 := fun W => l1Abs_any x W (by omega) (by omega)
  replace c1 := Lib.hid c1
  have c2 := fun W => gcdS_any x e W (by omega) (by omega) G hG
  replace c2 := Lib.hid c2
  clear hG
  have e0 : (e == 0) = false := by simp; omega
  replace hok := Lib.hid hok
  clear hV ha hb
  have ew : IntKind.i64.wrap (y * y) = y * y := IntWalk.i64_in _ (by omega)
  have h := Below.refl w.heap.size w
  have hA := below_alloc1 w (.cells #[.int .i64 a, .int .i64 b] 28)
  have hxc := Box.new w 28 #[.int .i64 a, .int .i64 b]
  replace h := Below.step h hA
  clear hA
  have hA := below_alloc1 (w.alloc (.cells #[.int .i64 a, .int .i64 b] 28)) (.cells #[.int .i64 x, .int .i64 y, .int .i64 e] 30)
  have hxp := Box.new (w.alloc (.cells #[.int .i64 a, .int .i64 b] 28)) 30 #[.int .i64 x, .int .i64 y, .int .i64 e]
  rw [show (w.alloc (.cells #[.int .i64 a, .int .i64 b] 28)).heap.size = w.heap.size + 1 from by simp] at hxp
  replace h := Below.step h hA
  replace hxc := hxc.kept hA
  clear hA
  obtain ⟨kc0, kc1⟩ := hxc.two
  have lc := hxc.lt
  obtain ⟨kp0, kp1, kp2⟩ := hxp.three
  have lp := hxp.lt
  go_enter Tryd.func24, Tryd.ntmps24
  go_wp2_with fail
  go_quiet ((first | (go_at_call 30; refine qleft (l1In_yes _ _ _ _ ?_ ?_) <;> omega) | (go_at_call 30; refine qleft (l1In_no _ _ _ _ ?_); omega) | (go_at_call 43; exact qleft (c1.out _)) | (go_at_call 42; exact qleft (c2.out _))))
  have hb := below_dr ((w.alloc (.cells #[.int .i64 a, .int .i64 b] 28)).alloc (.cells #[.int .i64 x, .int .i64 y, .int .i64 e] 30)) nq
  generalize World.drewN ((w.alloc (.cells #[.int .i64 a, .int .i64 b] 28)).alloc (.cells #[.int .i64 x, .int .i64 y, .int .i64 e] 30)) nq = w1 at *
  replace h := Below.step h hb
  replace hxc := hxc.kept hb
  replace hxp := hxp.kept hb
  clear hb kc0 kc1 lc kp0 kp1 kp2 lp
  obtain ⟨kc0, kc1⟩ := hxc.two
  have lc := hxc.lt
  obtain ⟨kp0, kp1, kp2⟩ := hxp.three
  have lp := hxp.lt
  go_upto_region 5 with fail
  have KM : ∀ (W : World), Below w1.heap.size w1 W → (W.cell? ⟨w.heap.size, 0, none⟩ = some (.int .i64 a) ∧ W.cell? ⟨w.heap.size, 1, none⟩ = some (.int .i64 b) ∧ W.cell? ⟨(w.heap.size + 1), 0, none⟩ = some (.int .i64 x) ∧ W.cell? ⟨(w.heap.size + 1), 1, none⟩ = some (.int .i64 y) ∧ W.cell? ⟨(w.heap.size + 1), 2, none⟩ = some (.int .i64 e) ∧ Below w1.heap.size w1 W) := fun W hW => ⟨(hxc.kept hW).two.1, (hxc.kept hW).two.2, (hxp.kept hW).three.1, (hxp.kept hW).three.2.1, (hxp.kept hW).three.2.2, hW⟩
  have KC : ∀ (W W' : World), Below W.heap.size W W' → (W.cell? ⟨w.heap.size, 0, none⟩ = some (.int .i64 a) ∧ W.cell? ⟨w.heap.size, 1, none⟩ = some (.int .i64 b) ∧ W.cell? ⟨(w.heap.size + 1), 0, none⟩ = some (.int .i64 x) ∧ W.cell? ⟨(w.heap.size + 1), 1, none⟩ = some (.int .i64 y) ∧ W.cell? ⟨(w.heap.size + 1), 2, none⟩ = some (.int .i64 e) ∧ Below w1.heap.size w1 W) → (W'.cell? ⟨w.heap.size, 0, none⟩ = some (.int .i64 a) ∧ W'.cell? ⟨w.heap.size, 1, none⟩ = some (.int .i64 b) ∧ W'.cell? ⟨(w.heap.size + 1), 0, none⟩ = some (.int .i64 x) ∧ W'.cell? ⟨(w.heap.size + 1), 1, none⟩ = some (.int .i64 y) ∧ W'.cell? ⟨(w.heap.size + 1), 2, none⟩ = some (.int .i64 e) ∧ Below w1.heap.size w1 W') := fun W W' hb ⟨_, _, _, _, _, hW⟩ => KM _ (Below.step hW hb)
  have KA : ∀ (W : World) (o : Obj), (W.cell? ⟨w.heap.size, 0, none⟩ = some (.int .i64 a) ∧ W.cell? ⟨w.heap.size, 1, none⟩ = some (.int .i64 b) ∧ W.cell? ⟨(w.heap.size + 1), 0, none⟩ = some (.int .i64 x) ∧ W.cell? ⟨(w.heap.size + 1), 1, none⟩ = some (.int .i64 y) ∧ W.cell? ⟨(w.heap.size + 1), 2, none⟩ = some (.int .i64 e) ∧ Below w1.heap.size w1 W) → ((W.alloc o).cell? ⟨w.heap.size, 0, none⟩ = some (.int .i64 a) ∧ (W.alloc o).cell? ⟨w.heap.size, 1, none⟩ = some (.int .i64 b) ∧ (W.alloc o).cell? ⟨(w.heap.size + 1), 0, none⟩ = some (.int .i64 x) ∧ (W.alloc o).cell? ⟨(w.heap.size + 1), 1, none⟩ = some (.int .i64 y) ∧ (W.alloc o).cell? ⟨(w.heap.size + 1), 2, none⟩ = some (.int .i64 e) ∧ Below w1.heap.size w1 (W.alloc o)) := fun W o ⟨_, _, _, _, _, hW⟩ => KM _ (Below.step hW (below_alloc1 _ _))
  have KD : ∀ (W : World), (W.cell? ⟨w.heap.size, 0, none⟩ = some (.int .i64 a) ∧ W.cell? ⟨w.heap.size, 1, none⟩ = some (.int .i64 b) ∧ W.cell? ⟨(w.heap.size + 1), 0, none⟩ = some (.int .i64 x) ∧ W.cell? ⟨(w.heap.size + 1), 1, none⟩ = some (.int .i64 y) ∧ W.cell? ⟨(w.heap.size + 1), 2, none⟩ = some (.int .i64 e) ∧ Below w1.heap.size w1 W) → (W.drew.cell? ⟨w.heap.size, 0, none⟩ = some (.int .i64 a) ∧ W.drew.cell? ⟨w.heap.size, 1, none⟩ = some (.int .i64 b) ∧ W.drew.cell? ⟨(w.heap.size + 1), 0, none⟩ = some (.int .i64 x) ∧ W.drew.cell? ⟨(w.heap.size + 1), 1, none⟩ = some (.int .i64 y) ∧ W.drew.cell? ⟨(w.heap.size + 1), 2, none⟩ = some (.int .i64 e) ∧ Below w1.heap.size w1 W.drew) := fun W ⟨_, _, _, _, _, hW⟩ => KM _ (Below.drewN' hW 1)
  have KB : ∀ (W : World), (W.cell? ⟨w.heap.size, 0, none⟩ = some (.int .i64 a) ∧ W.cell? ⟨w.heap.size, 1, none⟩ = some (.int .i64 b) ∧ W.cell? ⟨(w.heap.size + 1), 0, none⟩ = some (.int .i64 x) ∧ W.cell? ⟨(w.heap.size + 1), 1, none⟩ = some (.int .i64 y) ∧ W.cell? ⟨(w.heap.size + 1), 2, none⟩ = some (.int .i64 e) ∧ Below w1.heap.size w1 W) → Below w1.heap.size w1 W := fun W ⟨_, _, _, _, _, hW⟩ => hW
  have KM0 := KM w1.drew ⟨rfl, rfl, rfl, Nat.le_refl _, fun _ _ => rfl⟩
  have KM00 := KM _ (Below.refl _ _)
  replace KC := Lib.hid KC
  replace KA := Lib.hid KA
  replace KD := Lib.hid KD
  replace KB := Lib.hid KB
  clear KM kc0 kc1 lc kp0 kp1 kp2 lp
  go_cut [4] (fun s4 wx => s4 = .bool (y * y == V) ∧ Below w1.heap.size w1 wx)
  case first =>
    go_region_held3 (fun w' => w'.cell? ⟨w.heap.size, 0, none⟩ = some (.int .i64 a) ∧ w'.cell? ⟨w.heap.size, 1, none⟩ = some (.int .i64 b) ∧ w'.cell? ⟨(w.heap.size + 1), 0, none⟩ = some (.int .i64 x) ∧ w'.cell? ⟨(w.heap.size + 1), 1, none⟩ = some (.int .i64 y) ∧ w'.cell? ⟨(w.heap.size + 1), 2, none⟩ = some (.int .i64 e) ∧ Below w1.heap.size w1 w') ((first | (with_reducible assumption) | ((with_reducible refine KD.out _ ?_); (with_reducible assumption)) | ((with_reducible refine KA.out _ _ ?_); (first | (with_reducible assumption) | ((with_reducible refine KD.out _ ?_); (with_reducible assumption)))) | ((with_reducible refine KC.out _ _ ?_ ?_); (with_reducible assumption); (with_reducible assumption))))
      (first
        | (go_at_call 44; (with_reducible refine (key.out _).mono ?_); rintro e wC0 ⟨rfl, hbC⟩; have hS0 : wC0.cell? ⟨w.heap.size, 0, none⟩ = some (.int .i64 a) ∧ wC0.cell? ⟨w.heap.size, 1, none⟩ = some (.int .i64 b) ∧ wC0.cell? ⟨(w.heap.size + 1), 0, none⟩ = some (.int .i64 x) ∧ wC0.cell? ⟨(w.heap.size + 1), 1, none⟩ = some (.int .i64 y) ∧ wC0.cell? ⟨(w.heap.size + 1), 2, none⟩ = some (.int .i64 e) ∧ Below w1.heap.size w1 wC0 := KC.out _ _ hbC (by assumption)))
    all_goals (go_wp2_with fail; go_meet)
    all_goals refine ⟨(by first | with_reducible rfl | rw [ew]), KB.out _ ?_⟩
    all_goals (first | (with_reducible assumption) | ((with_reducible refine KD.out _ ?_); (with_reducible assumption)))
  case rest =>
  obtain ⟨rfl, hb⟩ := hcut
  clear KM0 KM00 KC KA KD KB
  replace h := Below.step h hb
  replace hxc := hxc.kept hb
  replace hxp := hxp.kept hb
  clear hb
  obtain ⟨kc0, kc1⟩ := hxc.two
  have lc := hxc.lt
  obtain ⟨kp0, kp1, kp2⟩ := hxp.three
  have lp := hxp.lt
  go_wp2_with fail
  rw [hok.out]
  go_ret
  exact ⟨rfl, h⟩

end Go.Proofs.YtokhadhfjbecmaaDoor
