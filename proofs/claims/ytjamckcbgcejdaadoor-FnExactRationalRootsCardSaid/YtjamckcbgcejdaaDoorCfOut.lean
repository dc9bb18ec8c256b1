/- isRootOf of the program, FactorOut of both sides (written by wip/gen/cifrac.py). -/
import Derived.Test.YtjamckcbgcejdaaDoorCfAt
namespace Go.Proofs.YtjamckcbgcejdaaDoor
open Go.RowKit Go.Joins

/-- A fraction that is a root of a valid cubic. -/
def CfRoot (a b c d p q : Int) : Prop := CuG a b c d ∧ FrG p q ∧ cuVal a b c d p q = 0
instance (a b c d p q : Int) : Decidable (CfRoot a b c d p q) := by unfold CfRoot; infer_instance
theorem CfRoot.rootF {a b c d p q : Int} (h : CfRoot a b c d p q) : RootF a b c d (p, q) := ⟨h.2.1.1, h.2.1.2.2.2.2, h.2.2⟩
theorem CfRoot.bd {a b c d p q : Int} (h : CfRoot a b c d p q) : q ≤ 1000 ∧ -1000 ≤ p ∧ p ≤ 1000 := h.rootF.bd h.1.1 h.1.2.1 h.1.2.2.1 h.1.2.2.2.1 h.1.2.2.2.2
theorem sgn_zero {z : Int} : sgn z = 0 ↔ z = 0 := by
  unfold sgn
  constructor
  · intro h; split at h
    · cases h
    · split at h
      · cases h
      · omega
  · rintro rfl; rfl
theorem cfRoot_iff (a b c d p q : Int) : CfRoot a b c d p q ↔ CfG a b c d p q ∧ cfR a b c d p q = 0 := by
  constructor
  · intro h
    have bb := h.bd
    have k : CfG a b c d p q := ⟨h.1, h.2.1, by omega, by omega⟩
    exact ⟨k, by unfold cfR; rw [if_pos k, sgn_zero]; exact h.2.2⟩
  · rintro ⟨k, h⟩
    unfold cfR at h
    rw [if_pos k, sgn_zero] at h
    exact ⟨k.1, k.2.1, h⟩
def GivesIIIB (w : World) (x y z : Int) (ok : Bool) (e : Ending) (w' : World) : Prop := e = .returned (.tuple #[.int .i64 x, .int .i64 y, .int .i64 z, .bool ok]) ∧ Below w.heap.size w w'

set_option maxHeartbeats 2000000 in
theorem isRootOf_bad (a b c d p q : Int) (w : World) (hL : Lim w) (k : ¬ CfG a b c d p q) : Calls Tryd.prog 35 #[.agg #[.int .i64 a, .int .i64 b, .int .i64 c, .int .i64 d], .agg #[.int .i64 p, .int .i64 q]] w (GivesB w false) := by
  have key := fun W hL => cfAtI_any a b c d p q W hL
  rw [decide_eq_false k] at key
  replace key := Lib.hid key
  clear k
  have h := below_alloc2 w (.cells #[.int .i64 a, .int .i64 b, .int .i64 c, .int .i64 d] 28) (.cells #[.int .i64 p, .int .i64 q] 30)
  have hx0 := (Box.new w 28 #[.int .i64 a, .int .i64 b, .int .i64 c, .int .i64 d]).kept (below_alloc1 (w.alloc (.cells #[.int .i64 a, .int .i64 b, .int .i64 c, .int .i64 d] 28)) (.cells #[.int .i64 p, .int .i64 q] 30))
  have hx1 := Box.new (w.alloc (.cells #[.int .i64 a, .int .i64 b, .int .i64 c, .int .i64 d] 28)) 30 #[.int .i64 p, .int .i64 q]
  rw [show (w.alloc (.cells #[.int .i64 a, .int .i64 b, .int .i64 c, .int .i64 d] 28)).heap.size = w.heap.size + 1 from by simp] at hx1
  obtain ⟨k0, k1, k2, k3⟩ := hx0.four
  obtain ⟨j0, j1⟩ := hx1.two
  replace hL := hL.kept h
  go_enter Tryd.func35, Tryd.ntmps35
  go_wp2_with fail
  refine (key.out _ hL).mono ?_
  rintro e w1 ⟨rfl, hb⟩
  replace h := Below.step h hb
  replace hx0 := hx0.kept hb
  replace hx1 := hx1.kept hb
  replace hL := hL.kept hb
  clear hb k0 k1 k2 k3 j0 j1
  obtain ⟨k0, k1, k2, k3⟩ := hx0.four
  obtain ⟨j0, j1⟩ := hx1.two
  go_wp2_with fail
  go_ret
  exact ⟨rfl, h⟩

set_option maxHeartbeats 2000000 in
theorem isRootOf_no (a b c d p q : Int) (w : World) (hL : Lim w) (k : CfG a b c d p q) (hr : cfR a b c d p q ≠ 0) : Calls Tryd.prog 35 #[.agg #[.int .i64 a, .int .i64 b, .int .i64 c, .int .i64 d], .agg #[.int .i64 p, .int .i64 q]] w (GivesB w false) := by
  have key := fun W hL => cfAtI_any a b c d p q W hL
  rw [decide_eq_true k] at key
  obtain ⟨R, hR⟩ : ∃ R, R = cfR a b c d p q := ⟨_, rfl⟩
  rw [← hR] at key hr
  have e1 : (R == 0) = false := beq_eq_false_iff_ne.2 hr
  clear hR hr
  replace key := Lib.hid key
  clear k
  have h := below_alloc2 w (.cells #[.int .i64 a, .int .i64 b, .int .i64 c, .int .i64 d] 28) (.cells #[.int .i64 p, .int .i64 q] 30)
  have hx0 := (Box.new w 28 #[.int .i64 a, .int .i64 b, .int .i64 c, .int .i64 d]).kept (below_alloc1 (w.alloc (.cells #[.int .i64 a, .int .i64 b, .int .i64 c, .int .i64 d] 28)) (.cells #[.int .i64 p, .int .i64 q] 30))
  have hx1 := Box.new (w.alloc (.cells #[.int .i64 a, .int .i64 b, .int .i64 c, .int .i64 d] 28)) 30 #[.int .i64 p, .int .i64 q]
  rw [show (w.alloc (.cells #[.int .i64 a, .int .i64 b, .int .i64 c, .int .i64 d] 28)).heap.size = w.heap.size + 1 from by simp] at hx1
  obtain ⟨k0, k1, k2, k3⟩ := hx0.four
  obtain ⟨j0, j1⟩ := hx1.two
  replace hL := hL.kept h
  go_enter Tryd.func35, Tryd.ntmps35
  go_wp2_with fail
  refine (key.out _ hL).mono ?_
  rintro e w1 ⟨rfl, hb⟩
  replace h := Below.step h hb
  replace hx0 := hx0.kept hb
  replace hx1 := hx1.kept hb
  replace hL := hL.kept hb
  clear hb k0 k1 k2 k3 j0 j1
  obtain ⟨k0, k1, k2, k3⟩ := hx0.four
  obtain ⟨j0, j1⟩ := hx1.two
  go_wp2_with fail
  go_ret
  exact ⟨rfl, h⟩

set_option maxHeartbeats 2000000 in
theorem isRootOf_yes (a b c d p q : Int) (w : World) (hL : Lim w) (k : CfG a b c d p q) (hr : cfR a b c d p q = 0) : Calls Tryd.prog 35 #[.agg #[.int .i64 a, .int .i64 b, .int .i64 c, .int .i64 d], .agg #[.int .i64 p, .int .i64 q]] w (GivesB w true) := by
  have key := fun W hL => cfAtI_any a b c d p q W hL
  rw [decide_eq_true k, hr] at key
  clear hr
  replace key := Lib.hid key
  clear k
  have h := below_alloc2 w (.cells #[.int .i64 a, .int .i64 b, .int .i64 c, .int .i64 d] 28) (.cells #[.int .i64 p, .int .i64 q] 30)
  have hx0 := (Box.new w 28 #[.int .i64 a, .int .i64 b, .int .i64 c, .int .i64 d]).kept (below_alloc1 (w.alloc (.cells #[.int .i64 a, .int .i64 b, .int .i64 c, .int .i64 d] 28)) (.cells #[.int .i64 p, .int .i64 q] 30))
  have hx1 := Box.new (w.alloc (.cells #[.int .i64 a, .int .i64 b, .int .i64 c, .int .i64 d] 28)) 30 #[.int .i64 p, .int .i64 q]
  rw [show (w.alloc (.cells #[.int .i64 a, .int .i64 b, .int .i64 c, .int .i64 d] 28)).heap.size = w.heap.size + 1 from by simp] at hx1
  obtain ⟨k0, k1, k2, k3⟩ := hx0.four
  obtain ⟨j0, j1⟩ := hx1.two
  replace hL := hL.kept h
  go_enter Tryd.func35, Tryd.ntmps35
  go_wp2_with fail
  refine (key.out _ hL).mono ?_
  rintro e w1 ⟨rfl, hb⟩
  replace h := Below.step h hb
  replace hx0 := hx0.kept hb
  replace hx1 := hx1.kept hb
  replace hL := hL.kept hb
  clear hb k0 k1 k2 k3 j0 j1
  obtain ⟨k0, k1, k2, k3⟩ := hx0.four
  obtain ⟨j0, j1⟩ := hx1.two
  go_wp2_with fail
  go_ret
  exact ⟨rfl, h⟩

theorem isRootOf_any (a b c d p q : Int) (w : World) (hL : Lim w) : Calls Tryd.prog 35 #[.agg #[.int .i64 a, .int .i64 b, .int .i64 c, .int .i64 d], .agg #[.int .i64 p, .int .i64 q]] w (GivesB w (decide (CfRoot a b c d p q))) := by
  by_cases k : CfG a b c d p q
  · by_cases hr : cfR a b c d p q = 0
    · rw [decide_eq_true ((cfRoot_iff _ _ _ _ _ _).2 ⟨k, hr⟩)]; exact isRootOf_yes a b c d p q w hL k hr
    · rw [decide_eq_false fun h => hr ((cfRoot_iff _ _ _ _ _ _).1 h).2]; exact isRootOf_no a b c d p q w hL k hr
  · rw [decide_eq_false fun h => k ((cfRoot_iff _ _ _ _ _ _).1 h).1]; exact isRootOf_bad a b c d p q w hL k

set_option maxHeartbeats 2000000 in
theorem footI_yes (a b c d p q : Int) (w : World) (hL : Lim w) (hr : CfRoot a b c d p q) (x y z : Int) (h1 : a = x * q) (h2 : b + x * p = y * q) (h3 : c + y * p = z * q) : Calls Tryd.prog 18 #[.agg #[.int .i64 a, .int .i64 b, .int .i64 c, .int .i64 d], .agg #[.int .i64 p, .int .i64 q]] w (GivesIIIB w x y z true) := by
  have bd := hr.bd
  obtain ⟨q1, p1, p2⟩ := bd
  have q0 := hr.2.1.1
  obtain ⟨-, ⟨a1, a2⟩, ⟨b1, b2⟩, ⟨c1, c2⟩, ⟨d1, d2⟩⟩ := id hr.1
  have t1 : a.tdiv q = x := by rw [h1]; exact Int.mul_tdiv_cancel _ (by omega)
  have t2 : (b + x * p).tdiv q = y := by rw [h2]; exact Int.mul_tdiv_cancel _ (by omega)
  have t3 : (c + y * p).tdiv q = z := by rw [h3]; exact Int.mul_tdiv_cancel _ (by omega)
  have x1 : -1000 ≤ x ∧ x ≤ 1000 := by rw [← t1]; exact tdiv_bd a1 a2
  have m1 := fr_mul_bd x1.1 x1.2 p1 p2
  rw [show ((1000 : Int) * 1000) = 1000000 from by decide] at m1
  have y1 : -1001000 ≤ y ∧ y ≤ 1001000 := by rw [← t2]; exact tdiv_bd (by omega) (by omega)
  have m2 := fr_mul_bd y1.1 y1.2 p1 p2
  rw [show ((1001000 : Int) * 1000) = 1001000000 from by decide] at m2
  have z1 : -1001001000 ≤ z ∧ z ≤ 1001001000 := by rw [← t3]; exact tdiv_bd (by omega) (by omega)
  obtain ⟨x1, x2⟩ := x1
  obtain ⟨y1, y2⟩ := y1
  obtain ⟨m1, m3⟩ := m1
  obtain ⟨m2, m4⟩ := m2
  have e1 : (q == 0) = false := beq_eq_false_iff_ne.2 (by omega)
  have e2 : q ≠ 0 := by omega
  have key := fun W hL => isRootOf_any a b c d p q W hL
  rw [decide_eq_true hr] at key
  replace key := Lib.hid key
  clear hr h1 h2 h3
  have h := below_alloc2 w (.cells #[.int .i64 a, .int .i64 b, .int .i64 c, .int .i64 d] 28) (.cells #[.int .i64 p, .int .i64 q] 30)
  have hx0 := (Box.new w 28 #[.int .i64 a, .int .i64 b, .int .i64 c, .int .i64 d]).kept (below_alloc1 (w.alloc (.cells #[.int .i64 a, .int .i64 b, .int .i64 c, .int .i64 d] 28)) (.cells #[.int .i64 p, .int .i64 q] 30))
  have hx1 := Box.new (w.alloc (.cells #[.int .i64 a, .int .i64 b, .int .i64 c, .int .i64 d] 28)) 30 #[.int .i64 p, .int .i64 q]
  rw [show (w.alloc (.cells #[.int .i64 a, .int .i64 b, .int .i64 c, .int .i64 d] 28)).heap.size = w.heap.size + 1 from by simp] at hx1
  obtain ⟨k0, k1, k2, k3⟩ := hx0.four
  obtain ⟨j0, j1⟩ := hx1.two
  replace hL := hL.kept h
  go_enter Tryd.func18, Tryd.ntmps18
  go_wp2_with fail
  refine (key.out _ hL).mono ?_
  rintro e w1 ⟨rfl, hb⟩
  replace h := Below.step h hb
  replace hx0 := hx0.kept hb
  replace hx1 := hx1.kept hb
  replace hL := hL.kept hb
  clear hb k0 k1 k2 k3 j0 j1
  obtain ⟨k0, k1, k2, k3⟩ := hx0.four
  obtain ⟨j0, j1⟩ := hx1.two
  go_wp2_with fail
  refine bodyPost_ret (v := .tuple #[.int .i64 x, .int .i64 y, .int .i64 z, .bool true]) (by simp [results, Tryd.results18, go_sem]) rfl ⟨rfl, h⟩

set_option maxHeartbeats 2000000 in
theorem footS_yes (a b c d p q : Int) (w : World) (hr : CfRoot a b c d p q) (x y z : Int) (h1 : a = x * q) (h2 : b + x * p = y * q) (h3 : c + y * p = z * q) : Calls Tryd.prog 17 #[.agg #[.int .i64 a, .int .i64 b, .int .i64 c, .int .i64 d], .agg #[.int .i64 p, .int .i64 q]] w (GivesIIIB w x y z true) := by
  have bd := hr.bd
  obtain ⟨q1, p1, p2⟩ := bd
  have q0 := hr.2.1.1
  obtain ⟨-, ⟨a1, a2⟩, ⟨b1, b2⟩, ⟨c1, c2⟩, ⟨d1, d2⟩⟩ := id hr.1
  have t1 : a.tdiv q = x := by rw [h1]; exact Int.mul_tdiv_cancel _ (by omega)
  have t2 : (b + x * p).tdiv q = y := by rw [h2]; exact Int.mul_tdiv_cancel _ (by omega)
  have t3 : (c + y * p).tdiv q = z := by rw [h3]; exact Int.mul_tdiv_cancel _ (by omega)
  have x1 : -1000 ≤ x ∧ x ≤ 1000 := by rw [← t1]; exact tdiv_bd a1 a2
  have m1 := fr_mul_bd x1.1 x1.2 p1 p2
  rw [show ((1000 : Int) * 1000) = 1000000 from by decide] at m1
  have y1 : -1001000 ≤ y ∧ y ≤ 1001000 := by rw [← t2]; exact tdiv_bd (by omega) (by omega)
  have m2 := fr_mul_bd y1.1 y1.2 p1 p2
  rw [show ((1001000 : Int) * 1000) = 1001000000 from by decide] at m2
  have z1 : -1001001000 ≤ z ∧ z ≤ 1001001000 := by rw [← t3]; exact tdiv_bd (by omega) (by omega)
  obtain ⟨x1, x2⟩ := x1
  obtain ⟨y1, y2⟩ := y1
  obtain ⟨m1, m3⟩ := m1
  obtain ⟨m2, m4⟩ := m2
  have e1 : (q == 0) = false := beq_eq_false_iff_ne.2 (by omega)
  have e2 : q ≠ 0 := by omega
  have g := hr.1
  have gf := hr.2.1
  have ka := fun W => l1Abs_any p W (by omega) (by omega)
  have pa : ((p.natAbs : Nat) : Int) ≤ 1000 := by omega
  have key := fun W => cuValue_any a b c d p q W g.2.1 g.2.2.1 g.2.2.2.1 g.2.2.2.2 (by omega) (by omega) 0 hr.2.2
  replace ka := Lib.hid ka
  replace key := Lib.hid key
  have c1' : p * x = x * p := Int.mul_comm _ _
  have c2' : p * y = y * p := Int.mul_comm _ _
  rw [← c1'] at m1 m3 t2
  rw [← c2'] at m2 m4 t3
  clear hr h1 h2 h3 c1' c2'
  have h := below_alloc2 w (.cells #[.int .i64 a, .int .i64 b, .int .i64 c, .int .i64 d] 28) (.cells #[.int .i64 p, .int .i64 q] 30)
  have hx0 := (Box.new w 28 #[.int .i64 a, .int .i64 b, .int .i64 c, .int .i64 d]).kept (below_alloc1 (w.alloc (.cells #[.int .i64 a, .int .i64 b, .int .i64 c, .int .i64 d] 28)) (.cells #[.int .i64 p, .int .i64 q] 30))
  have hx1 := Box.new (w.alloc (.cells #[.int .i64 a, .int .i64 b, .int .i64 c, .int .i64 d] 28)) 30 #[.int .i64 p, .int .i64 q]
  rw [show (w.alloc (.cells #[.int .i64 a, .int .i64 b, .int .i64 c, .int .i64 d] 28)).heap.size = w.heap.size + 1 from by simp] at hx1
  obtain ⟨k0, k1, k2, k3⟩ := hx0.four
  obtain ⟨j0, j1⟩ := hx1.two
  go_enter Tryd.func17, Tryd.ntmps17
  go_wp2_with fail
  refine (cuGood_yes a b c d _ g).mono ?_
  rintro e w1 ⟨rfl, hb⟩
  replace h := Below.step h hb
  replace hx0 := hx0.kept hb
  replace hx1 := hx1.kept hb
  clear hb k0 k1 k2 k3 j0 j1
  obtain ⟨k0, k1, k2, k3⟩ := hx0.four
  obtain ⟨j0, j1⟩ := hx1.two
  go_wp2_with fail
  refine (frGood_yes p q _ gf).mono ?_
  rintro e w2 ⟨rfl, hb⟩
  replace h := Below.step h hb
  replace hx0 := hx0.kept hb
  replace hx1 := hx1.kept hb
  clear hb k0 k1 k2 k3 j0 j1
  obtain ⟨k0, k1, k2, k3⟩ := hx0.four
  obtain ⟨j0, j1⟩ := hx1.two
  go_wp2_with fail
  refine (ka.out _).mono ?_
  rintro e w3 ⟨rfl, rfl⟩
  go_wp2_with fail
  refine (key.out _).mono ?_
  rintro e w4 ⟨rfl, hb⟩
  replace h := Below.step h hb
  replace hx0 := hx0.kept hb
  replace hx1 := hx1.kept hb
  clear hb k0 k1 k2 k3 j0 j1
  obtain ⟨k0, k1, k2, k3⟩ := hx0.four
  obtain ⟨j0, j1⟩ := hx1.two
  go_wp2_with fail
  refine bodyPost_ret (v := .tuple #[.int .i64 x, .int .i64 y, .int .i64 z, .bool true]) (by simp [results, Tryd.results17, go_sem]) rfl ⟨rfl, h⟩

set_option maxHeartbeats 2000000 in
theorem footI_no (a b c d p q : Int) (w : World) (hL : Lim w) (hr : ¬ CfRoot a b c d p q) : Calls Tryd.prog 18 #[.agg #[.int .i64 a, .int .i64 b, .int .i64 c, .int .i64 d], .agg #[.int .i64 p, .int .i64 q]] w (GivesIIIB w 0 0 0 false) := by
  have key := fun W hL => isRootOf_any a b c d p q W hL
  rw [decide_eq_false hr] at key
  replace key := Lib.hid key
  clear hr
  have h := below_alloc2 w (.cells #[.int .i64 a, .int .i64 b, .int .i64 c, .int .i64 d] 28) (.cells #[.int .i64 p, .int .i64 q] 30)
  have hx0 := (Box.new w 28 #[.int .i64 a, .int .i64 b, .int .i64 c, .int .i64 d]).kept (below_alloc1 (w.alloc (.cells #[.int .i64 a, .int .i64 b, .int .i64 c, .int .i64 d] 28)) (.cells #[.int .i64 p, .int .i64 q] 30))
  have hx1 := Box.new (w.alloc (.cells #[.int .i64 a, .int .i64 b, .int .i64 c, .int .i64 d] 28)) 30 #[.int .i64 p, .int .i64 q]
  rw [show (w.alloc (.cells #[.int .i64 a, .int .i64 b, .int .i64 c, .int .i64 d] 28)).heap.size = w.heap.size + 1 from by simp] at hx1
  obtain ⟨k0, k1, k2, k3⟩ := hx0.four
  obtain ⟨j0, j1⟩ := hx1.two
  replace hL := hL.kept h
  go_enter Tryd.func18, Tryd.ntmps18
  go_wp2_with fail
  refine (key.out _ hL).mono ?_
  rintro e w1 ⟨rfl, hb⟩
  replace h := Below.step h hb
  replace hx0 := hx0.kept hb
  replace hx1 := hx1.kept hb
  replace hL := hL.kept hb
  clear hb k0 k1 k2 k3 j0 j1
  obtain ⟨k0, k1, k2, k3⟩ := hx0.four
  obtain ⟨j0, j1⟩ := hx1.two
  go_wp2_with fail
  refine bodyPost_ret (v := .tuple #[.int .i64 0, .int .i64 0, .int .i64 0, .bool false]) (by simp [results, Tryd.results18, go_sem]) rfl ⟨rfl, h⟩

set_option maxHeartbeats 2000000 in
theorem footS_bad (a b c d p q : Int) (w : World) (g : ¬ CuG a b c d) : Calls Tryd.prog 17 #[.agg #[.int .i64 a, .int .i64 b, .int .i64 c, .int .i64 d], .agg #[.int .i64 p, .int .i64 q]] w (GivesIIIB w 0 0 0 false) := by
  have h := below_alloc2 w (.cells #[.int .i64 a, .int .i64 b, .int .i64 c, .int .i64 d] 28) (.cells #[.int .i64 p, .int .i64 q] 30)
  have hx0 := (Box.new w 28 #[.int .i64 a, .int .i64 b, .int .i64 c, .int .i64 d]).kept (below_alloc1 (w.alloc (.cells #[.int .i64 a, .int .i64 b, .int .i64 c, .int .i64 d] 28)) (.cells #[.int .i64 p, .int .i64 q] 30))
  have hx1 := Box.new (w.alloc (.cells #[.int .i64 a, .int .i64 b, .int .i64 c, .int .i64 d] 28)) 30 #[.int .i64 p, .int .i64 q]
  rw [show (w.alloc (.cells #[.int .i64 a, .int .i64 b, .int .i64 c, .int .i64 d] 28)).heap.size = w.heap.size + 1 from by simp] at hx1
  obtain ⟨k0, k1, k2, k3⟩ := hx0.four
  obtain ⟨j0, j1⟩ := hx1.two
  go_enter Tryd.func17, Tryd.ntmps17
  go_wp2_with fail
  refine (cuGood_no a b c d _ g).mono ?_
  rintro e w1 ⟨rfl, hb⟩
  replace h := Below.step h hb
  replace hx0 := hx0.kept hb
  replace hx1 := hx1.kept hb
  clear hb k0 k1 k2 k3 j0 j1
  obtain ⟨k0, k1, k2, k3⟩ := hx0.four
  obtain ⟨j0, j1⟩ := hx1.two
  go_wp2_with fail
  refine bodyPost_ret (v := .tuple #[.int .i64 0, .int .i64 0, .int .i64 0, .bool false]) (by simp [results, Tryd.results17, go_sem]) rfl ⟨rfl, h⟩

set_option maxHeartbeats 2000000 in
theorem footS_nof (a b c d p q : Int) (w : World) (g : CuG a b c d) (gf : ¬ FrG p q) : Calls Tryd.prog 17 #[.agg #[.int .i64 a, .int .i64 b, .int .i64 c, .int .i64 d], .agg #[.int .i64 p, .int .i64 q]] w (GivesIIIB w 0 0 0 false) := by
  have h := below_alloc2 w (.cells #[.int .i64 a, .int .i64 b, .int .i64 c, .int .i64 d] 28) (.cells #[.int .i64 p, .int .i64 q] 30)
  have hx0 := (Box.new w 28 #[.int .i64 a, .int .i64 b, .int .i64 c, .int .i64 d]).kept (below_alloc1 (w.alloc (.cells #[.int .i64 a, .int .i64 b, .int .i64 c, .int .i64 d] 28)) (.cells #[.int .i64 p, .int .i64 q] 30))
  have hx1 := Box.new (w.alloc (.cells #[.int .i64 a, .int .i64 b, .int .i64 c, .int .i64 d] 28)) 30 #[.int .i64 p, .int .i64 q]
  rw [show (w.alloc (.cells #[.int .i64 a, .int .i64 b, .int .i64 c, .int .i64 d] 28)).heap.size = w.heap.size + 1 from by simp] at hx1
  obtain ⟨k0, k1, k2, k3⟩ := hx0.four
  obtain ⟨j0, j1⟩ := hx1.two
  go_enter Tryd.func17, Tryd.ntmps17
  go_wp2_with fail
  refine (cuGood_yes a b c d _ g).mono ?_
  rintro e w1 ⟨rfl, hb⟩
  replace h := Below.step h hb
  replace hx0 := hx0.kept hb
  replace hx1 := hx1.kept hb
  clear hb k0 k1 k2 k3 j0 j1
  obtain ⟨k0, k1, k2, k3⟩ := hx0.four
  obtain ⟨j0, j1⟩ := hx1.two
  go_wp2_with fail
  refine (frGood_no p q _ gf).mono ?_
  rintro e w2 ⟨rfl, hb⟩
  replace h := Below.step h hb
  replace hx0 := hx0.kept hb
  replace hx1 := hx1.kept hb
  clear hb k0 k1 k2 k3 j0 j1
  obtain ⟨k0, k1, k2, k3⟩ := hx0.four
  obtain ⟨j0, j1⟩ := hx1.two
  go_wp2_with fail
  refine bodyPost_ret (v := .tuple #[.int .i64 0, .int .i64 0, .int .i64 0, .bool false]) (by simp [results, Tryd.results17, go_sem]) rfl ⟨rfl, h⟩

set_option maxHeartbeats 2000000 in
theorem footS_num (a b c d p q : Int) (w : World) (g : CuG a b c d) (gf : FrG p q) (hp : p < -1000 ∨ 1000 < p) : Calls Tryd.prog 17 #[.agg #[.int .i64 a, .int .i64 b, .int .i64 c, .int .i64 d], .agg #[.int .i64 p, .int .i64 q]] w (GivesIIIB w 0 0 0 false) := by
  have gb := gf.2.2
  have ka := fun W => l1Abs_any p W (by omega) (by omega)
  obtain ⟨P, hP⟩ : ∃ P : Int, P = ((p.natAbs : Nat) : Int) := ⟨_, rfl⟩
  rw [← hP] at ka
  replace ka := Lib.hid ka
  have hP2 : 1000 < P := by omega
  clear hP hp gb
  have h := below_alloc2 w (.cells #[.int .i64 a, .int .i64 b, .int .i64 c, .int .i64 d] 28) (.cells #[.int .i64 p, .int .i64 q] 30)
  have hx0 := (Box.new w 28 #[.int .i64 a, .int .i64 b, .int .i64 c, .int .i64 d]).kept (below_alloc1 (w.alloc (.cells #[.int .i64 a, .int .i64 b, .int .i64 c, .int .i64 d] 28)) (.cells #[.int .i64 p, .int .i64 q] 30))
  have hx1 := Box.new (w.alloc (.cells #[.int .i64 a, .int .i64 b, .int .i64 c, .int .i64 d] 28)) 30 #[.int .i64 p, .int .i64 q]
  rw [show (w.alloc (.cells #[.int .i64 a, .int .i64 b, .int .i64 c, .int .i64 d] 28)).heap.size = w.heap.size + 1 from by simp] at hx1
  obtain ⟨k0, k1, k2, k3⟩ := hx0.four
  obtain ⟨j0, j1⟩ := hx1.two
  go_enter Tryd.func17, Tryd.ntmps17
  go_wp2_with fail
  refine (cuGood_yes a b c d _ g).mono ?_
  rintro e w1 ⟨rfl, hb⟩
  replace h := Below.step h hb
  replace hx0 := hx0.kept hb
  replace hx1 := hx1.kept hb
  clear hb k0 k1 k2 k3 j0 j1
  obtain ⟨k0, k1, k2, k3⟩ := hx0.four
  obtain ⟨j0, j1⟩ := hx1.two
  go_wp2_with fail
  refine (frGood_yes p q _ gf).mono ?_
  rintro e w2 ⟨rfl, hb⟩
  replace h := Below.step h hb
  replace hx0 := hx0.kept hb
  replace hx1 := hx1.kept hb
  clear hb k0 k1 k2 k3 j0 j1
  obtain ⟨k0, k1, k2, k3⟩ := hx0.four
  obtain ⟨j0, j1⟩ := hx1.two
  go_wp2_with fail
  refine (ka.out _).mono ?_
  rintro e w3 ⟨rfl, rfl⟩
  go_wp2_with fail
  refine bodyPost_ret (v := .tuple #[.int .i64 0, .int .i64 0, .int .i64 0, .bool false]) (by simp [results, Tryd.results17, go_sem]) rfl ⟨rfl, h⟩

set_option maxHeartbeats 2000000 in
theorem footS_den (a b c d p q : Int) (w : World) (g : CuG a b c d) (gf : FrG p q) (hp1 : -1000 ≤ p) (hp2 : p ≤ 1000) (hq : 1000 < q) : Calls Tryd.prog 17 #[.agg #[.int .i64 a, .int .i64 b, .int .i64 c, .int .i64 d], .agg #[.int .i64 p, .int .i64 q]] w (GivesIIIB w 0 0 0 false) := by
  have gb := gf.2.2
  have ka := fun W => l1Abs_any p W (by omega) (by omega)
  obtain ⟨P, hP⟩ : ∃ P : Int, P = ((p.natAbs : Nat) : Int) := ⟨_, rfl⟩
  rw [← hP] at ka
  replace ka := Lib.hid ka
  have hP2 : P ≤ 1000 := by omega
  clear hP gb
  have h := below_alloc2 w (.cells #[.int .i64 a, .int .i64 b, .int .i64 c, .int .i64 d] 28) (.cells #[.int .i64 p, .int .i64 q] 30)
  have hx0 := (Box.new w 28 #[.int .i64 a, .int .i64 b, .int .i64 c, .int .i64 d]).kept (below_alloc1 (w.alloc (.cells #[.int .i64 a, .int .i64 b, .int .i64 c, .int .i64 d] 28)) (.cells #[.int .i64 p, .int .i64 q] 30))
  have hx1 := Box.new (w.alloc (.cells #[.int .i64 a, .int .i64 b, .int .i64 c, .int .i64 d] 28)) 30 #[.int .i64 p, .int .i64 q]
  rw [show (w.alloc (.cells #[.int .i64 a, .int .i64 b, .int .i64 c, .int .i64 d] 28)).heap.size = w.heap.size + 1 from by simp] at hx1
  obtain ⟨k0, k1, k2, k3⟩ := hx0.four
  obtain ⟨j0, j1⟩ := hx1.two
  go_enter Tryd.func17, Tryd.ntmps17
  go_wp2_with fail
  refine (cuGood_yes a b c d _ g).mono ?_
  rintro e w1 ⟨rfl, hb⟩
  replace h := Below.step h hb
  replace hx0 := hx0.kept hb
  replace hx1 := hx1.kept hb
  clear hb k0 k1 k2 k3 j0 j1
  obtain ⟨k0, k1, k2, k3⟩ := hx0.four
  obtain ⟨j0, j1⟩ := hx1.two
  go_wp2_with fail
  refine (frGood_yes p q _ gf).mono ?_
  rintro e w2 ⟨rfl, hb⟩
  replace h := Below.step h hb
  replace hx0 := hx0.kept hb
  replace hx1 := hx1.kept hb
  clear hb k0 k1 k2 k3 j0 j1
  obtain ⟨k0, k1, k2, k3⟩ := hx0.four
  obtain ⟨j0, j1⟩ := hx1.two
  go_wp2_with fail
  refine (ka.out _).mono ?_
  rintro e w3 ⟨rfl, rfl⟩
  go_wp2_with fail
  refine bodyPost_ret (v := .tuple #[.int .i64 0, .int .i64 0, .int .i64 0, .bool false]) (by simp [results, Tryd.results17, go_sem]) rfl ⟨rfl, h⟩

set_option maxHeartbeats 2000000 in
theorem footS_val (a b c d p q : Int) (w : World) (g : CuG a b c d) (gf : FrG p q) (hp1 : -1000 ≤ p) (hp2 : p ≤ 1000) (hq : q ≤ 1000) (hv : cuVal a b c d p q ≠ 0) : Calls Tryd.prog 17 #[.agg #[.int .i64 a, .int .i64 b, .int .i64 c, .int .i64 d], .agg #[.int .i64 p, .int .i64 q]] w (GivesIIIB w 0 0 0 false) := by
  have gb := gf.2.2
  have ka := fun W => l1Abs_any p W (by omega) (by omega)
  obtain ⟨P, hP⟩ : ∃ P : Int, P = ((p.natAbs : Nat) : Int) := ⟨_, rfl⟩
  rw [← hP] at ka
  replace ka := Lib.hid ka
  have hP2 : P ≤ 1000 := by omega
  have gq := gf.1
  have key := fun (V : Int) (hV : cuVal a b c d p q = V) W => cuValue_any a b c d p q W g.2.1 g.2.2.1 g.2.2.2.1 g.2.2.2.2 (by omega) (by omega) V hV
  obtain ⟨V, hV⟩ : ∃ V, cuVal a b c d p q = V := ⟨_, rfl⟩
  replace key := key V hV
  have e1 : (V != 0) = true := by rw [hV] at hv; simp [hv]
  replace key := Lib.hid key
  clear hP gb hV hv
  have h := below_alloc2 w (.cells #[.int .i64 a, .int .i64 b, .int .i64 c, .int .i64 d] 28) (.cells #[.int .i64 p, .int .i64 q] 30)
  have hx0 := (Box.new w 28 #[.int .i64 a, .int .i64 b, .int .i64 c, .int .i64 d]).kept (below_alloc1 (w.alloc (.cells #[.int .i64 a, .int .i64 b, .int .i64 c, .int .i64 d] 28)) (.cells #[.int .i64 p, .int .i64 q] 30))
  have hx1 := Box.new (w.alloc (.cells #[.int .i64 a, .int .i64 b, .int .i64 c, .int .i64 d] 28)) 30 #[.int .i64 p, .int .i64 q]
  rw [show (w.alloc (.cells #[.int .i64 a, .int .i64 b, .int .i64 c, .int .i64 d] 28)).heap.size = w.heap.size + 1 from by simp] at hx1
  obtain ⟨k0, k1, k2, k3⟩ := hx0.four
  obtain ⟨j0, j1⟩ := hx1.two
  go_enter Tryd.func17, Tryd.ntmps17
  go_wp2_with fail
  refine (cuGood_yes a b c d _ g).mono ?_
  rintro e w1 ⟨rfl, hb⟩
  replace h := Below.step h hb
  replace hx0 := hx0.kept hb
  replace hx1 := hx1.kept hb
  clear hb k0 k1 k2 k3 j0 j1
  obtain ⟨k0, k1, k2, k3⟩ := hx0.four
  obtain ⟨j0, j1⟩ := hx1.two
  go_wp2_with fail
  refine (frGood_yes p q _ gf).mono ?_
  rintro e w2 ⟨rfl, hb⟩
  replace h := Below.step h hb
  replace hx0 := hx0.kept hb
  replace hx1 := hx1.kept hb
  clear hb k0 k1 k2 k3 j0 j1
  obtain ⟨k0, k1, k2, k3⟩ := hx0.four
  obtain ⟨j0, j1⟩ := hx1.two
  go_wp2_with fail
  refine (ka.out _).mono ?_
  rintro e w3 ⟨rfl, rfl⟩
  go_wp2_with fail
  refine (key.out _).mono ?_
  rintro e w4 ⟨rfl, hb⟩
  replace h := Below.step h hb
  replace hx0 := hx0.kept hb
  replace hx1 := hx1.kept hb
  clear hb k0 k1 k2 k3 j0 j1
  obtain ⟨k0, k1, k2, k3⟩ := hx0.four
  obtain ⟨j0, j1⟩ := hx1.two
  go_wp2_with fail
  refine bodyPost_ret (v := .tuple #[.int .i64 0, .int .i64 0, .int .i64 0, .bool false]) (by simp [results, Tryd.results17, go_sem]) rfl ⟨rfl, h⟩

theorem footS_no (a b c d p q : Int) (w : World) (hr : ¬ CfRoot a b c d p q) : Calls Tryd.prog 17 #[.agg #[.int .i64 a, .int .i64 b, .int .i64 c, .int .i64 d], .agg #[.int .i64 p, .int .i64 q]] w (GivesIIIB w 0 0 0 false) := by
  by_cases g : CuG a b c d
  · by_cases gf : FrG p q
    · by_cases hp : p < -1000 ∨ 1000 < p
      · exact footS_num a b c d p q w g gf hp
      · by_cases hq : 1000 < q
        · exact footS_den a b c d p q w g gf (by omega) (by omega) hq
        · exact footS_val a b c d p q w g gf (by omega) (by omega) (by omega) (fun h => hr ⟨g, gf, h⟩)
    · exact footS_nof a b c d p q w g gf
  · exact footS_bad a b c d p q w g
end Go.Proofs.YtjamckcbgcejdaaDoor
