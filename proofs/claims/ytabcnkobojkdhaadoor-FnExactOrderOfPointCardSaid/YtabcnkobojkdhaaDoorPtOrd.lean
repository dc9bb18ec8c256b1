/- OrderOfPoint of both sides; MultiplePoint of the model (written by wip/gen/ptmulw.py). -/
import Derived.Test.YtabcnkobojkdhaaDoorPtTim
import Derived.Test.YtabcnkobojkdhaaDoorPtAdd
import Derived.Deep.RegionHeld3
import Derived.Deep.DeepCutAuto
import Derived.BigQuiet
namespace Go.Proofs.YtabcnkobojkdhaaDoor
open Go.RowKit Go.Joins

set_option maxHeartbeats 1000000 in
set_option maxRecDepth 100000 in
theorem mulS_off (a b : Int) (p : P3) (n : Int) (w : World) (g : ¬ PtG a b p) : Calls Tryd.prog 17 #[.agg #[.int .i64 a, .int .i64 b], .agg #[.int .i64 p.x, .int .i64 p.y, .int .i64 p.e], .int .i64 n] w (GivesPB w 0 0 0 false) := by
  have h := Below.refl w.heap.size w
  have hA := below_alloc1 w (.cells #[.int .i64 a, .int .i64 b] 29)
  have hxc := Box.new w 29 #[.int .i64 a, .int .i64 b]
  replace h := Below.step h hA
  clear hA
  have hA := below_alloc1 (w.alloc (.cells #[.int .i64 a, .int .i64 b] 29)) (.cells #[.int .i64 p.x, .int .i64 p.y, .int .i64 p.e] 26)
  have hxp := Box.new (w.alloc (.cells #[.int .i64 a, .int .i64 b] 29)) 26 #[.int .i64 p.x, .int .i64 p.y, .int .i64 p.e]
  rw [show (w.alloc (.cells #[.int .i64 a, .int .i64 b] 29)).heap.size = w.heap.size + 1 from by simp] at hxp
  replace h := Below.step h hA
  replace hxc := hxc.kept hA
  clear hA
  have hA := below_alloc1 ((w.alloc (.cells #[.int .i64 a, .int .i64 b] 29)).alloc (.cells #[.int .i64 p.x, .int .i64 p.y, .int .i64 p.e] 26)) (.cells #[.int .i64 0, .int .i64 0, .int .i64 0] 26)
  have hxr := Box.new ((w.alloc (.cells #[.int .i64 a, .int .i64 b] 29)).alloc (.cells #[.int .i64 p.x, .int .i64 p.y, .int .i64 p.e] 26)) 26 #[.int .i64 0, .int .i64 0, .int .i64 0]
  rw [show ((w.alloc (.cells #[.int .i64 a, .int .i64 b] 29)).alloc (.cells #[.int .i64 p.x, .int .i64 p.y, .int .i64 p.e] 26)).heap.size = w.heap.size + 2 from by simp] at hxr
  replace h := Below.step h hA
  replace hxc := hxc.kept hA
  replace hxp := hxp.kept hA
  clear hA
  obtain ⟨kc0, kc1⟩ := hxc.two
  have lc := hxc.lt
  obtain ⟨kp0, kp1, kp2⟩ := hxp.three
  have lp := hxp.lt
  obtain ⟨kr0, kr1, kr2⟩ := hxr.three
  have lr := hxr.lt
  go_enter Tryd.func17, Tryd.ntmps17
  go_wp2_with fail
  refine (isPtS_off a b p _ g).mono ?_
  rintro e w1 ⟨rfl, hb⟩
  replace h := Below.step h hb
  replace hxc := hxc.kept hb
  replace hxp := hxp.kept hb
  replace hxr := hxr.kept hb
  clear hb kc0 kc1 lc kp0 kp1 kp2 lp kr0 kr1 kr2 lr
  obtain ⟨kc0, kc1⟩ := hxc.two
  have lc := hxc.lt
  obtain ⟨kp0, kp1, kp2⟩ := hxp.three
  have lp := hxp.lt
  obtain ⟨kr0, kr1, kr2⟩ := hxr.three
  have lr := hxr.lt
  have fr0 := hxr.free 0
  have fr1 := hxr.free 1
  have fr2 := hxr.free 2
  obtain ⟨sr0, sr1, sr2⟩ := (((hxr.set 0 (.int .i64 0)).set 1 (.int .i64 0)).set 2 (.int .i64 0)).three
  go_wp2_with fail
  refine bodyPost_ret (v := .tuple #[.agg #[.int .i64 0, .int .i64 0, .int .i64 0], .bool false]) (by simp [results, Tryd.results17, go_sem, sr0, sr1, sr2]) (by rfl) ⟨by rfl, ?_⟩
  exact below_sets3 h (by omega) _ _ _


set_option maxHeartbeats 1000000 in
set_option maxRecDepth 100000 in
theorem mulS_far (a b : Int) (p : P3) (n : Int) (w : World) (g : PtG a b p) (hn : n < -12 ∨ 12 < n) : Calls Tryd.prog 17 #[.agg #[.int .i64 a, .int .i64 b], .agg #[.int .i64 p.x, .int .i64 p.y, .int .i64 p.e], .int .i64 n] w (GivesPB w 0 0 0 false) := by
  replace hn := Lib.hid hn
  have h := Below.refl w.heap.size w
  have hA := below_alloc1 w (.cells #[.int .i64 a, .int .i64 b] 29)
  have hxc := Box.new w 29 #[.int .i64 a, .int .i64 b]
  replace h := Below.step h hA
  clear hA
  have hA := below_alloc1 (w.alloc (.cells #[.int .i64 a, .int .i64 b] 29)) (.cells #[.int .i64 p.x, .int .i64 p.y, .int .i64 p.e] 26)
  have hxp := Box.new (w.alloc (.cells #[.int .i64 a, .int .i64 b] 29)) 26 #[.int .i64 p.x, .int .i64 p.y, .int .i64 p.e]
  rw [show (w.alloc (.cells #[.int .i64 a, .int .i64 b] 29)).heap.size = w.heap.size + 1 from by simp] at hxp
  replace h := Below.step h hA
  replace hxc := hxc.kept hA
  clear hA
  have hA := below_alloc1 ((w.alloc (.cells #[.int .i64 a, .int .i64 b] 29)).alloc (.cells #[.int .i64 p.x, .int .i64 p.y, .int .i64 p.e] 26)) (.cells #[.int .i64 0, .int .i64 0, .int .i64 0] 26)
  have hxr := Box.new ((w.alloc (.cells #[.int .i64 a, .int .i64 b] 29)).alloc (.cells #[.int .i64 p.x, .int .i64 p.y, .int .i64 p.e] 26)) 26 #[.int .i64 0, .int .i64 0, .int .i64 0]
  rw [show ((w.alloc (.cells #[.int .i64 a, .int .i64 b] 29)).alloc (.cells #[.int .i64 p.x, .int .i64 p.y, .int .i64 p.e] 26)).heap.size = w.heap.size + 2 from by simp] at hxr
  replace h := Below.step h hA
  replace hxc := hxc.kept hA
  replace hxp := hxp.kept hA
  clear hA
  obtain ⟨kc0, kc1⟩ := hxc.two
  have lc := hxc.lt
  obtain ⟨kp0, kp1, kp2⟩ := hxp.three
  have lp := hxp.lt
  obtain ⟨kr0, kr1, kr2⟩ := hxr.three
  have lr := hxr.lt
  go_enter Tryd.func17, Tryd.ntmps17
  go_wp2_with fail
  refine (isPtS_on a b p _ g).mono ?_
  rintro e w1 ⟨rfl, hb⟩
  replace h := Below.step h hb
  replace hxc := hxc.kept hb
  replace hxp := hxp.kept hb
  replace hxr := hxr.kept hb
  clear hb kc0 kc1 lc kp0 kp1 kp2 lp kr0 kr1 kr2 lr
  obtain ⟨kc0, kc1⟩ := hxc.two
  have lc := hxc.lt
  obtain ⟨kp0, kp1, kp2⟩ := hxp.three
  have lp := hxp.lt
  obtain ⟨kr0, kr1, kr2⟩ := hxr.three
  have lr := hxr.lt
  go_wp2_with fail
  have fr0 := hxr.free 0
  have fr1 := hxr.free 1
  have fr2 := hxr.free 2
  obtain ⟨sr0, sr1, sr2⟩ := (((hxr.set 0 (.int .i64 0)).set 1 (.int .i64 0)).set 2 (.int .i64 0)).three
  refine (l1In_no n (-12) 12 _ hn.out).mono ?_
  rintro e w2 ⟨rfl, rfl⟩
  go_wp2_with fail
  refine bodyPost_ret (v := .tuple #[.agg #[.int .i64 0, .int .i64 0, .int .i64 0], .bool false]) (by simp [results, Tryd.results17, go_sem, sr0, sr1, sr2]) (by rfl) ⟨by rfl, ?_⟩
  exact below_sets3 h (by omega) _ _ _


set_option maxHeartbeats 1000000 in
set_option maxRecDepth 100000 in
theorem mulS_c (a b : Int) (p : P3) (n : Int) (w : World) (g : PtG a b p) (h1 : -12 ≤ n) (h2 : n ≤ 12) (x y u : Int) (ok : Bool) (c1 : ∀ W : World, Calls Tryd.prog 38 #[.agg #[.int .i64 a, .int .i64 b], .agg #[.int .i64 p.x, .int .i64 p.y, .int .i64 p.e], .int .i64 n] W (GivesPB W x y u ok)) : Calls Tryd.prog 17 #[.agg #[.int .i64 a, .int .i64 b], .agg #[.int .i64 p.x, .int .i64 p.y, .int .i64 p.e], .int .i64 n] w (GivesPB w x y u ok) := by
  have cp := fun W => isPtS_on a b p W g
  replace cp := Lib.hid cp
  replace c1 := Lib.hid c1
  clear g
  have h := Below.refl w.heap.size w
  have hA := below_alloc1 w (.cells #[.int .i64 a, .int .i64 b] 29)
  have hxc := Box.new w 29 #[.int .i64 a, .int .i64 b]
  replace h := Below.step h hA
  clear hA
  have hA := below_alloc1 (w.alloc (.cells #[.int .i64 a, .int .i64 b] 29)) (.cells #[.int .i64 p.x, .int .i64 p.y, .int .i64 p.e] 26)
  have hxp := Box.new (w.alloc (.cells #[.int .i64 a, .int .i64 b] 29)) 26 #[.int .i64 p.x, .int .i64 p.y, .int .i64 p.e]
  rw [show (w.alloc (.cells #[.int .i64 a, .int .i64 b] 29)).heap.size = w.heap.size + 1 from by simp] at hxp
  replace h := Below.step h hA
  replace hxc := hxc.kept hA
  clear hA
  have hA := below_alloc1 ((w.alloc (.cells #[.int .i64 a, .int .i64 b] 29)).alloc (.cells #[.int .i64 p.x, .int .i64 p.y, .int .i64 p.e] 26)) (.cells #[.int .i64 0, .int .i64 0, .int .i64 0] 26)
  have hxr := Box.new ((w.alloc (.cells #[.int .i64 a, .int .i64 b] 29)).alloc (.cells #[.int .i64 p.x, .int .i64 p.y, .int .i64 p.e] 26)) 26 #[.int .i64 0, .int .i64 0, .int .i64 0]
  rw [show ((w.alloc (.cells #[.int .i64 a, .int .i64 b] 29)).alloc (.cells #[.int .i64 p.x, .int .i64 p.y, .int .i64 p.e] 26)).heap.size = w.heap.size + 2 from by simp] at hxr
  replace h := Below.step h hA
  replace hxc := hxc.kept hA
  replace hxp := hxp.kept hA
  clear hA
  obtain ⟨kc0, kc1⟩ := hxc.two
  have lc := hxc.lt
  obtain ⟨kp0, kp1, kp2⟩ := hxp.three
  have lp := hxp.lt
  obtain ⟨kr0, kr1, kr2⟩ := hxr.three
  have lr := hxr.lt
  go_enter Tryd.func17, Tryd.ntmps17
  go_wp2_with fail
  refine (cp.out _).mono ?_
  rintro e w1 ⟨rfl, hb⟩
  replace h := Below.step h hb
  replace hxc := hxc.kept hb
  replace hxp := hxp.kept hb
  replace hxr := hxr.kept hb
  clear hb kc0 kc1 lc kp0 kp1 kp2 lp kr0 kr1 kr2 lr
  obtain ⟨kc0, kc1⟩ := hxc.two
  have lc := hxc.lt
  obtain ⟨kp0, kp1, kp2⟩ := hxp.three
  have lp := hxp.lt
  obtain ⟨kr0, kr1, kr2⟩ := hxr.three
  have lr := hxr.lt
  go_wp2_with fail
  refine (l1In_yes n (-12) 12 _ h1 h2).mono ?_
  rintro e w2 ⟨rfl, rfl⟩
  go_wp2_with fail
  refine (c1.out _).mono ?_
  rintro e w3 ⟨rfl, hb⟩
  replace h := Below.step h hb
  replace hxc := hxc.kept hb
  replace hxp := hxp.kept hb
  replace hxr := hxr.kept hb
  clear hb kc0 kc1 lc kp0 kp1 kp2 lp kr0 kr1 kr2 lr
  obtain ⟨kc0, kc1⟩ := hxc.two
  have lc := hxc.lt
  obtain ⟨kp0, kp1, kp2⟩ := hxp.three
  have lp := hxp.lt
  obtain ⟨kr0, kr1, kr2⟩ := hxr.three
  have lr := hxr.lt
  have fr0 := hxr.free 0
  have fr1 := hxr.free 1
  have fr2 := hxr.free 2
  obtain ⟨sr0, sr1, sr2⟩ := (((hxr.set 0 (.int .i64 x)).set 1 (.int .i64 y)).set 2 (.int .i64 u)).three
  go_wp2_with fail
  refine bodyPost_ret (v := .tuple #[.agg #[.int .i64 x, .int .i64 y, .int .i64 u], .bool ok]) (by simp [results, Tryd.results17, go_sem, sr0, sr1, sr2]) (by rfl) ⟨by rfl, ?_⟩
  exact below_sets3 h (by omega) _ _ _


/-- The first of n, n + 1, .. (m of them) whose multiple is infinity. -/
noncomputable def ordR (a : Int) (p : P3) : Nat → Nat → Int × Bool
  | 0, _ => (0, false)
  | m + 1, n => match mult a p n with
    | none => (0, false)
    | some s => if s.e = 0 then ((n : Int), true) else ordR a p m (n + 1)
theorem ordR_none {a : Int} {p : P3} {m n : Nat} (h : mult a p n = none) : ordR a p (m + 1) n = (0, false) := by rw [ordR, h]
theorem ordR_inf {a : Int} {p s : P3} {m n : Nat} (h : mult a p n = some s) (he : s.e = 0) : ordR a p (m + 1) n = ((n : Int), true) := by rw [ordR, h]; exact if_pos he
theorem ordR_go {a : Int} {p s : P3} {m n : Nat} (h : mult a p n = some s) (he : s.e ≠ 0) : ordR a p (m + 1) n = ordR a p m (n + 1) := by rw [ordR, h]; exact if_neg he

set_option maxHeartbeats 1000000 in
set_option maxRecDepth 100000 in
theorem ptOrder_c (a b : Int) (p : P3) (w : World) (c1 : ∀ k : Nat, k ≤ 12 → ∀ W : World, Calls Tryd.prog 38 #[.agg #[.int .i64 a, .int .i64 b], .agg #[.int .i64 p.x, .int .i64 p.y, .int .i64 p.e], .int .i64 (k : Int)] W (GivesO W (mult a p k))) (R : Int × Bool) (hR : Hid (ordR a p 12 1 = R)) : Calls Tryd.prog 39 #[.agg #[.int .i64 a, .int .i64 b], .agg #[.int .i64 p.x, .int .i64 p.y, .int .i64 p.e]] w (GivesIB w R.1 R.2) := by
  have h := Below.refl w.heap.size w
  have hA := below_alloc1 w (.cells #[.int .i64 a, .int .i64 b] 29)
  have hxc := Box.new w 29 #[.int .i64 a, .int .i64 b]
  replace h := Below.step h hA
  clear hA
  have hA := below_alloc1 (w.alloc (.cells #[.int .i64 a, .int .i64 b] 29)) (.cells #[.int .i64 p.x, .int .i64 p.y, .int .i64 p.e] 26)
  have hxp := Box.new (w.alloc (.cells #[.int .i64 a, .int .i64 b] 29)) 26 #[.int .i64 p.x, .int .i64 p.y, .int .i64 p.e]
  rw [show (w.alloc (.cells #[.int .i64 a, .int .i64 b] 29)).heap.size = w.heap.size + 1 from by simp] at hxp
  replace h := Below.step h hA
  replace hxc := hxc.kept hA
  clear hA
  obtain ⟨kc0, kc1⟩ := hxc.two
  have lc := hxc.lt
  obtain ⟨kp0, kp1, kp2⟩ := hxp.three
  have lp := hxp.lt
  go_enter Tryd.func39, Tryd.ntmps39
  go_wp2_with fail
  go_loopw [6] (fun n wr => ∃ (k m : Nat), m + k = 13 ∧ 1 ≤ k ∧ n = .int .i64 k ∧ Hid (ordR a p m k = R) ∧ Below w.heap.size w wr ∧ Box wr w.heap.size 29 #[.int .i64 a, .int .i64 b] ∧ Box wr (w.heap.size + 1) 26 #[.int .i64 p.x, .int .i64 p.y, .int .i64 p.e]) (fun n _ => 14 - (intOf n).toNat)
  case atStart => exact ⟨1, 12, rfl, by omega, rfl, hR.out, h, hxc, hxp⟩
  case round =>
    clear h hxc hxp kc0 kc1 lc kp0 kp1 kp2 lp
    obtain ⟨k, m, hk, hk1, rfl, hm, h, hxc, hxp⟩ := hrel
    clear hR
    rcases Nat.eq_zero_or_pos m with h0 | h0
    · subst h0
      have hk12 : ¬ (k : Int) ≤ 12 := by omega
      have he : R = (0, false) := hm.out.symm
      replace he := Lib.hid he
      clear hm
      obtain ⟨kc0, kc1⟩ := hxc.two
      have lc := hxc.lt
      obtain ⟨kp0, kp1, kp2⟩ := hxp.three
      have lp := hxp.lt
      go_wp2_with fail
      rw [he.out]
      go_ret2
      exact ⟨rfl, h⟩
    · obtain ⟨m', rfl⟩ : ∃ m', m = m' + 1 := ⟨m - 1, by omega⟩
      have hk12 : (k : Int) ≤ 12 := by omega
      have c2 := fun W => c1 k (by omega) W
      cases hq : mult a p k with
      | none =>
        rw [hq] at c2
        have he : R = (0, false) := by rw [← hm.out]; exact ordR_none hq
        replace he := Lib.hid he
        replace c2 : Hid (∀ W : World, Calls Tryd.prog 38 #[.agg #[.int .i64 a, .int .i64 b], .agg #[.int .i64 p.x, .int .i64 p.y, .int .i64 p.e], .int .i64 (k : Int)] W (GivesPB W 0 0 0 false)) := c2
        clear hm hq c1
        obtain ⟨kc0, kc1⟩ := hxc.two
        have lc := hxc.lt
        obtain ⟨kp0, kp1, kp2⟩ := hxp.three
        have lp := hxp.lt
        go_wp2_with fail
        refine (c2.out _).mono ?_
        rintro e w1 ⟨rfl, hb⟩
        replace h := Below.step h hb
        replace hxc := hxc.kept hb
        replace hxp := hxp.kept hb
        clear hb kc0 kc1 lc kp0 kp1 kp2 lp
        obtain ⟨kc0, kc1⟩ := hxc.two
        have lc := hxc.lt
        obtain ⟨kp0, kp1, kp2⟩ := hxp.three
        have lp := hxp.lt
        go_wp2_with fail
        rw [he.out]
        go_ret2
        exact ⟨rfl, Below.step h (below_alloc1 _ _)⟩
      | some s =>
        rw [hq] at c2
        replace c2 : Hid (∀ W : World, Calls Tryd.prog 38 #[.agg #[.int .i64 a, .int .i64 b], .agg #[.int .i64 p.x, .int .i64 p.y, .int .i64 p.e], .int .i64 (k : Int)] W (GivesPB W s.x s.y s.e true)) := c2
        by_cases hse : s.e = 0
        · have he : R = ((k : Int), true) := by rw [← hm.out]; exact ordR_inf hq hse
          have e0 : (s.e == 0) = true := by simp [hse]
          replace he := Lib.hid he
          clear hm hq hse c1
          obtain ⟨kc0, kc1⟩ := hxc.two
          have lc := hxc.lt
          obtain ⟨kp0, kp1, kp2⟩ := hxp.three
          have lp := hxp.lt
          go_wp2_with fail
          refine (c2.out _).mono ?_
          rintro e w2 ⟨rfl, hb⟩
          replace h := Below.step h hb
          replace hxc := hxc.kept hb
          replace hxp := hxp.kept hb
          clear hb kc0 kc1 lc kp0 kp1 kp2 lp
          obtain ⟨kc0, kc1⟩ := hxc.two
          have lc := hxc.lt
          obtain ⟨kp0, kp1, kp2⟩ := hxp.three
          have lp := hxp.lt
          go_wp2_with fail
          rw [he.out]
          go_ret2
          exact ⟨rfl, Below.step h (below_alloc1 _ _)⟩
        · have he : Hid (ordR a p m' (k + 1) = R) := by rw [← hm.out]; exact (ordR_go hq hse).symm
          have e0 : (s.e == 0) = false := by simp [hse]
          clear hm hq hse c1
          obtain ⟨kc0, kc1⟩ := hxc.two
          have lc := hxc.lt
          obtain ⟨kp0, kp1, kp2⟩ := hxp.three
          have lp := hxp.lt
          go_wp2_with fail
          refine (c2.out _).mono ?_
          rintro e w3 ⟨rfl, hb⟩
          replace h := Below.step h hb
          replace hxc := hxc.kept hb
          replace hxp := hxp.kept hb
          clear hb kc0 kc1 lc kp0 kp1 kp2 lp
          obtain ⟨kc0, kc1⟩ := hxc.two
          have lc := hxc.lt
          obtain ⟨kp0, kp1, kp2⟩ := hxp.three
          have lp := hxp.lt
          go_wp2_with fail
          go_roundw
          case rel => exact ⟨k + 1, m', by omega, by omega, by go_num, he, Below.step h (below_alloc1 _ _), hxc.kept (below_alloc1 _ _), hxp.kept (below_alloc1 _ _)⟩
          case measure => simp [intOf]; omega


set_option maxHeartbeats 1000000 in
set_option maxRecDepth 100000 in
theorem ordS_off (a b : Int) (p : P3) (w : World) (g : ¬ PtG a b p) : Calls Tryd.prog 24 #[.agg #[.int .i64 a, .int .i64 b], .agg #[.int .i64 p.x, .int .i64 p.y, .int .i64 p.e]] w (GivesIB w 0 false) := by
  have h := Below.refl w.heap.size w
  have hA := below_alloc1 w (.cells #[.int .i64 a, .int .i64 b] 29)
  have hxc := Box.new w 29 #[.int .i64 a, .int .i64 b]
  replace h := Below.step h hA
  clear hA
  have hA := below_alloc1 (w.alloc (.cells #[.int .i64 a, .int .i64 b] 29)) (.cells #[.int .i64 p.x, .int .i64 p.y, .int .i64 p.e] 26)
  have hxp := Box.new (w.alloc (.cells #[.int .i64 a, .int .i64 b] 29)) 26 #[.int .i64 p.x, .int .i64 p.y, .int .i64 p.e]
  rw [show (w.alloc (.cells #[.int .i64 a, .int .i64 b] 29)).heap.size = w.heap.size + 1 from by simp] at hxp
  replace h := Below.step h hA
  replace hxc := hxc.kept hA
  clear hA
  obtain ⟨kc0, kc1⟩ := hxc.two
  have lc := hxc.lt
  obtain ⟨kp0, kp1, kp2⟩ := hxp.three
  have lp := hxp.lt
  go_enter Tryd.func24, Tryd.ntmps24
  go_wp2_with fail
  refine (isPtS_off a b p _ g).mono ?_
  rintro e w1 ⟨rfl, hb⟩
  replace h := Below.step h hb
  replace hxc := hxc.kept hb
  replace hxp := hxp.kept hb
  clear hb kc0 kc1 lc kp0 kp1 kp2 lp
  obtain ⟨kc0, kc1⟩ := hxc.two
  have lc := hxc.lt
  obtain ⟨kp0, kp1, kp2⟩ := hxp.three
  have lp := hxp.lt
  go_wp2_with fail
  go_ret2
  exact ⟨rfl, h⟩


set_option maxHeartbeats 1000000 in
set_option maxRecDepth 100000 in
theorem ordS_c (a b : Int) (p : P3) (w : World) (g : PtG a b p) (n : Int) (ok : Bool) (c1 : ∀ W : World, Calls Tryd.prog 39 #[.agg #[.int .i64 a, .int .i64 b], .agg #[.int .i64 p.x, .int .i64 p.y, .int .i64 p.e]] W (GivesIB W n ok)) : Calls Tryd.prog 24 #[.agg #[.int .i64 a, .int .i64 b], .agg #[.int .i64 p.x, .int .i64 p.y, .int .i64 p.e]] w (GivesIB w n ok) := by
  have cp := fun W => isPtS_on a b p W g
  replace cp := Lib.hid cp
  replace c1 := Lib.hid c1
  clear g
  have h := Below.refl w.heap.size w
  have hA := below_alloc1 w (.cells #[.int .i64 a, .int .i64 b] 29)
  have hxc := Box.new w 29 #[.int .i64 a, .int .i64 b]
  replace h := Below.step h hA
  clear hA
  have hA := below_alloc1 (w.alloc (.cells #[.int .i64 a, .int .i64 b] 29)) (.cells #[.int .i64 p.x, .int .i64 p.y, .int .i64 p.e] 26)
  have hxp := Box.new (w.alloc (.cells #[.int .i64 a, .int .i64 b] 29)) 26 #[.int .i64 p.x, .int .i64 p.y, .int .i64 p.e]
  rw [show (w.alloc (.cells #[.int .i64 a, .int .i64 b] 29)).heap.size = w.heap.size + 1 from by simp] at hxp
  replace h := Below.step h hA
  replace hxc := hxc.kept hA
  clear hA
  obtain ⟨kc0, kc1⟩ := hxc.two
  have lc := hxc.lt
  obtain ⟨kp0, kp1, kp2⟩ := hxp.three
  have lp := hxp.lt
  go_enter Tryd.func24, Tryd.ntmps24
  go_wp2_with fail
  refine (cp.out _).mono ?_
  rintro e w1 ⟨rfl, hb⟩
  replace h := Below.step h hb
  replace hxc := hxc.kept hb
  replace hxp := hxp.kept hb
  clear hb kc0 kc1 lc kp0 kp1 kp2 lp
  obtain ⟨kc0, kc1⟩ := hxc.two
  have lc := hxc.lt
  obtain ⟨kp0, kp1, kp2⟩ := hxp.three
  have lp := hxp.lt
  go_wp2_with fail
  refine (c1.out _).mono ?_
  rintro e w2 ⟨rfl, hb⟩
  replace h := Below.step h hb
  replace hxc := hxc.kept hb
  replace hxp := hxp.kept hb
  clear hb kc0 kc1 lc kp0 kp1 kp2 lp
  obtain ⟨kc0, kc1⟩ := hxc.two
  have lc := hxc.lt
  obtain ⟨kp0, kp1, kp2⟩ := hxp.three
  have lp := hxp.lt
  go_wp2_with fail
  go_ret2
  exact ⟨rfl, h⟩


theorem Lim.off {w : World} {g i : Nat} (h : Lim w) (hne : 0 ≠ g) (u : Value) : Lim (w.setCell ⟨g, i, none⟩ u) := by
  have e := fun k : Nat => World.cell?_setCell_far w ⟨g, i, none⟩ ⟨0, k, none⟩ u (Ne.symm hne)
  exact ⟨(e 0).trans h.1, (e 1).trans h.2.1, (e 2).trans h.2.2⟩
theorem Lim.off3 {w : World} {g : Nat} (h : Lim w) (hne : 0 ≠ g) (u v s : Value) : Lim (((w.setCell ⟨g, 0, none⟩ u).setCell ⟨g, 1, none⟩ v).setCell ⟨g, 2, none⟩ s) :=
  ((h.off hne u).off hne v).off hne s

set_option maxHeartbeats 1000000 in
set_option maxRecDepth 100000 in
theorem ordI_c (a b : Int) (p : P3) (w : World) (hL : Lim w) (hlim : 0 < w.heap.size) (c1 : ∀ (s : P3) (j : Nat), mult a p j = some s → ∀ W : World, Lim W → Calls Tryd.prog 13 #[.agg #[.int .i64 a, .int .i64 b], .agg #[.int .i64 s.x, .int .i64 s.y, .int .i64 s.e], .agg #[.int .i64 p.x, .int .i64 p.y, .int .i64 p.e]] W (GivesO W (addP a s p))) (hz : ∀ (s s' : P3) (j : Nat), mult a p j = some s → addP a s p = some s' → s' ≠ .zero → s'.e ≠ 0) (R : Int × Bool) (hR : Hid (ordR a p 12 1 = R)) : Calls Tryd.prog 25 #[.agg #[.int .i64 a, .int .i64 b], .agg #[.int .i64 p.x, .int .i64 p.y, .int .i64 p.e]] w (GivesIB w R.1 R.2) := by
  replace c1 := Lib.hid c1
  have h := Below.refl w.heap.size w
  have hA := below_alloc1 w (.cells #[.int .i64 a, .int .i64 b] 29)
  have hxc := Box.new w 29 #[.int .i64 a, .int .i64 b]
  replace h := Below.step h hA
  clear hA
  have hA := below_alloc1 (w.alloc (.cells #[.int .i64 a, .int .i64 b] 29)) (.cells #[.int .i64 p.x, .int .i64 p.y, .int .i64 p.e] 26)
  have hxp := Box.new (w.alloc (.cells #[.int .i64 a, .int .i64 b] 29)) 26 #[.int .i64 p.x, .int .i64 p.y, .int .i64 p.e]
  rw [show (w.alloc (.cells #[.int .i64 a, .int .i64 b] 29)).heap.size = w.heap.size + 1 from by simp] at hxp
  replace h := Below.step h hA
  replace hxc := hxc.kept hA
  clear hA
  have hA := below_alloc1 ((w.alloc (.cells #[.int .i64 a, .int .i64 b] 29)).alloc (.cells #[.int .i64 p.x, .int .i64 p.y, .int .i64 p.e] 26)) (.cells #[.int .i64 0, .int .i64 0, .int .i64 0] 26)
  have hxs := Box.new ((w.alloc (.cells #[.int .i64 a, .int .i64 b] 29)).alloc (.cells #[.int .i64 p.x, .int .i64 p.y, .int .i64 p.e] 26)) 26 #[.int .i64 0, .int .i64 0, .int .i64 0]
  rw [show ((w.alloc (.cells #[.int .i64 a, .int .i64 b] 29)).alloc (.cells #[.int .i64 p.x, .int .i64 p.y, .int .i64 p.e] 26)).heap.size = w.heap.size + 2 from by simp] at hxs
  replace h := Below.step h hA
  replace hxc := hxc.kept hA
  replace hxp := hxp.kept hA
  clear hA
  obtain ⟨kc0, kc1⟩ := hxc.two
  have lc := hxc.lt
  obtain ⟨kp0, kp1, kp2⟩ := hxp.three
  have lp := hxp.lt
  obtain ⟨ks0, ks1, ks2⟩ := hxs.three
  have ls := hxs.lt
  replace hL := hL.kept h
  go_enter Tryd.func25, Tryd.ntmps25
  go_wp2_with fail
  go_loopw [7] (fun n wr => ∃ (k m : Nat) (s : P3), m + k = 13 ∧ 1 ≤ k ∧ n = .int .i64 k ∧ Hid (ordR a p m k = R) ∧ Hid (mult a p (k - 1) = some s) ∧ Below w.heap.size w wr ∧ Lim wr ∧ Box wr w.heap.size 29 #[.int .i64 a, .int .i64 b] ∧ Box wr (w.heap.size + 1) 26 #[.int .i64 p.x, .int .i64 p.y, .int .i64 p.e] ∧ Box wr (w.heap.size + 2) 26 #[.int .i64 s.x, .int .i64 s.y, .int .i64 s.e]) (fun n _ => 14 - (intOf n).toNat)
  case atStart => exact ⟨1, 12, .zero, rfl, by omega, rfl, hR.out, rfl, h, hL, hxc, hxp, hxs⟩
  case round =>
    clear h hL hxc hxp hxs kc0 kc1 lc kp0 kp1 kp2 lp ks0 ks1 ks2 ls
    obtain ⟨k, m, s, hk, hk1, rfl, hm, hs, h, hL, hxc, hxp, hxs⟩ := hrel
    clear hR
    rcases Nat.eq_zero_or_pos m with h0 | h0
    · subst h0
      have hk12 : ¬ (k : Int) ≤ 12 := by omega
      have he : R = (0, false) := hm.out.symm
      replace he := Lib.hid he
      clear hm hs c1
      obtain ⟨kc0, kc1⟩ := hxc.two
      have lc := hxc.lt
      obtain ⟨kp0, kp1, kp2⟩ := hxp.three
      have lp := hxp.lt
      obtain ⟨ks0, ks1, ks2⟩ := hxs.three
      have ls := hxs.lt
      go_wp2_with fail
      rw [he.out]
      go_ret2
      exact ⟨rfl, h⟩
    · obtain ⟨m', rfl⟩ : ∃ m', m = m' + 1 := ⟨m - 1, by omega⟩
      have hk12 : (k : Int) ≤ 12 := by omega
      have c2 := fun W hL => c1.out s (k - 1) hs.out W hL
      have hq0 : mult a p k = addP a s p := by rw [show k = (k - 1) + 1 from by omega]; exact mult_step hs.out
      cases hq : addP a s p with
      | none =>
        rw [hq] at c2
        have he : R = (0, false) := by rw [← hm.out]; exact ordR_none (hq0.trans hq)
        replace he := Lib.hid he
        replace c2 : Hid (∀ W : World, Lim W → Calls Tryd.prog 13 #[.agg #[.int .i64 a, .int .i64 b], .agg #[.int .i64 s.x, .int .i64 s.y, .int .i64 s.e], .agg #[.int .i64 p.x, .int .i64 p.y, .int .i64 p.e]] W (GivesPB W 0 0 0 false)) := c2
        clear hm hs hq hq0 c1
        obtain ⟨kc0, kc1⟩ := hxc.two
        have lc := hxc.lt
        obtain ⟨kp0, kp1, kp2⟩ := hxp.three
        have lp := hxp.lt
        obtain ⟨ks0, ks1, ks2⟩ := hxs.three
        have ls := hxs.lt
        go_wp2_with fail
        refine (c2.out _ hL).mono ?_
        rintro e w1 ⟨rfl, hb⟩
        replace h := Below.step h hb
        replace hxc := hxc.kept hb
        replace hxp := hxp.kept hb
        replace hxs := hxs.kept hb
        replace hL := hL.kept hb
        clear hb kc0 kc1 lc kp0 kp1 kp2 lp ks0 ks1 ks2 ls
        obtain ⟨kc0, kc1⟩ := hxc.two
        have lc := hxc.lt
        obtain ⟨kp0, kp1, kp2⟩ := hxp.three
        have lp := hxp.lt
        obtain ⟨ks0, ks1, ks2⟩ := hxs.three
        have ls := hxs.lt
        have fs0 := hxs.free 0
        have fs1 := hxs.free 1
        have fs2 := hxs.free 2
        go_wp2_with fail
        rw [he.out]
        go_ret2
        exact ⟨rfl, below_sets3 h (by omega) _ _ _⟩
      | some s' =>
        rw [hq] at c2
        replace c2 : Hid (∀ W : World, Lim W → Calls Tryd.prog 13 #[.agg #[.int .i64 a, .int .i64 b], .agg #[.int .i64 s.x, .int .i64 s.y, .int .i64 s.e], .agg #[.int .i64 p.x, .int .i64 p.y, .int .i64 p.e]] W (GivesPB W s'.x s'.y s'.e true)) := c2
        by_cases hse : s' = .zero
        · have he : R = ((k : Int), true) := by rw [← hm.out]; exact ordR_inf (hq0.trans hq) (by rw [hse]; rfl)
          replace he := Lib.hid he
          subst hse
          replace c2 : Hid (∀ W : World, Lim W → Calls Tryd.prog 13 #[.agg #[.int .i64 a, .int .i64 b], .agg #[.int .i64 s.x, .int .i64 s.y, .int .i64 s.e], .agg #[.int .i64 p.x, .int .i64 p.y, .int .i64 p.e]] W (GivesPB W 0 0 0 true)) := c2
          clear hm hs hq hq0 c1
          obtain ⟨kc0, kc1⟩ := hxc.two
          have lc := hxc.lt
          obtain ⟨kp0, kp1, kp2⟩ := hxp.three
          have lp := hxp.lt
          obtain ⟨ks0, ks1, ks2⟩ := hxs.three
          have ls := hxs.lt
          go_wp2_with fail
          refine (c2.out _ hL).mono ?_
          rintro e w2 ⟨rfl, hb⟩
          replace h := Below.step h hb
          replace hxc := hxc.kept hb
          replace hxp := hxp.kept hb
          replace hxs := hxs.kept hb
          replace hL := hL.kept hb
          clear hb kc0 kc1 lc kp0 kp1 kp2 lp ks0 ks1 ks2 ls
          obtain ⟨kc0, kc1⟩ := hxc.two
          have lc := hxc.lt
          obtain ⟨kp0, kp1, kp2⟩ := hxp.three
          have lp := hxp.lt
          obtain ⟨ks0, ks1, ks2⟩ := hxs.three
          have ls := hxs.lt
          have fs0 := hxs.free 0
          have fs1 := hxs.free 1
          have fs2 := hxs.free 2
          obtain ⟨t0, t1, t2⟩ := (hxs.set3 (.int .i64 0) (.int .i64 0) (.int .i64 0)).three
          go_wp2_with fail
          refine (isInf_yes _).mono ?_
          rintro e w9 ⟨rfl, hb⟩
          replace h := Below.step (below_sets3 h (by omega) _ _ _) hb
          go_wp2_with fail
          rw [he.out]
          go_ret2
          exact ⟨rfl, h⟩
        · have he : Hid (ordR a p m' (k + 1) = R) := by rw [← hm.out]; exact (ordR_go (hq0.trans hq) (hz s s' (k - 1) hs.out hq hse)).symm
          have hs' : Hid (mult a p (k + 1 - 1) = some s') := hq0.trans hq
          have ci := fun W => isInf_no s' W hse
          replace ci := Lib.hid ci
          clear hm hs hq hq0 c1 hse
          obtain ⟨kc0, kc1⟩ := hxc.two
          have lc := hxc.lt
          obtain ⟨kp0, kp1, kp2⟩ := hxp.three
          have lp := hxp.lt
          obtain ⟨ks0, ks1, ks2⟩ := hxs.three
          have ls := hxs.lt
          go_wp2_with fail
          refine (c2.out _ hL).mono ?_
          rintro e w3 ⟨rfl, hb⟩
          replace h := Below.step h hb
          replace hxc := hxc.kept hb
          replace hxp := hxp.kept hb
          replace hxs := hxs.kept hb
          replace hL := hL.kept hb
          clear hb kc0 kc1 lc kp0 kp1 kp2 lp ks0 ks1 ks2 ls
          obtain ⟨kc0, kc1⟩ := hxc.two
          have lc := hxc.lt
          obtain ⟨kp0, kp1, kp2⟩ := hxp.three
          have lp := hxp.lt
          obtain ⟨ks0, ks1, ks2⟩ := hxs.three
          have ls := hxs.lt
          have fs0 := hxs.free 0
          have fs1 := hxs.free 1
          have fs2 := hxs.free 2
          obtain ⟨t0, t1, t2⟩ := (hxs.set3 (.int .i64 s'.x) (.int .i64 s'.y) (.int .i64 s'.e)).three
          go_wp2_with fail
          refine (ci.out _).mono ?_
          rintro e w9 ⟨rfl, hb⟩
          replace h := Below.step (below_sets3 h (by omega) _ _ _) hb
          go_wp2_with fail
          go_roundw
          case rel =>
            have hsz : (w9 : World).heap.size ≥ 0 := Nat.zero_le _
            exact ⟨k + 1, m', s', by omega, by omega, by go_num, he, hs', h, (hL.off3 (g := w.heap.size + 2) (by omega) _ _ _).kept hb, ((hxc.off3 (by omega) _ _ _).kept hb), ((hxp.off3 (by omega) _ _ _).kept hb), ((hxs.set3 _ _ _).kept hb)⟩
          case measure => simp [intOf]; omega


set_option maxHeartbeats 1000000 in
set_option maxRecDepth 100000 in
theorem ordI_off (a b : Int) (p : P3) (w : World) (hL : Lim w) (c1 : ∀ W : World, Lim W → Calls Tryd.prog 13 #[.agg #[.int .i64 a, .int .i64 b], .agg #[.int .i64 0, .int .i64 0, .int .i64 0], .agg #[.int .i64 p.x, .int .i64 p.y, .int .i64 p.e]] W (GivesPB W 0 0 0 false)) : Calls Tryd.prog 25 #[.agg #[.int .i64 a, .int .i64 b], .agg #[.int .i64 p.x, .int .i64 p.y, .int .i64 p.e]] w (GivesIB w 0 false) := by
  replace c1 := Lib.hid c1
  have h := Below.refl w.heap.size w
  have hA := below_alloc1 w (.cells #[.int .i64 a, .int .i64 b] 29)
  have hxc := Box.new w 29 #[.int .i64 a, .int .i64 b]
  replace h := Below.step h hA
  clear hA
  have hA := below_alloc1 (w.alloc (.cells #[.int .i64 a, .int .i64 b] 29)) (.cells #[.int .i64 p.x, .int .i64 p.y, .int .i64 p.e] 26)
  have hxp := Box.new (w.alloc (.cells #[.int .i64 a, .int .i64 b] 29)) 26 #[.int .i64 p.x, .int .i64 p.y, .int .i64 p.e]
  rw [show (w.alloc (.cells #[.int .i64 a, .int .i64 b] 29)).heap.size = w.heap.size + 1 from by simp] at hxp
  replace h := Below.step h hA
  replace hxc := hxc.kept hA
  clear hA
  have hA := below_alloc1 ((w.alloc (.cells #[.int .i64 a, .int .i64 b] 29)).alloc (.cells #[.int .i64 p.x, .int .i64 p.y, .int .i64 p.e] 26)) (.cells #[.int .i64 0, .int .i64 0, .int .i64 0] 26)
  have hxs := Box.new ((w.alloc (.cells #[.int .i64 a, .int .i64 b] 29)).alloc (.cells #[.int .i64 p.x, .int .i64 p.y, .int .i64 p.e] 26)) 26 #[.int .i64 0, .int .i64 0, .int .i64 0]
  rw [show ((w.alloc (.cells #[.int .i64 a, .int .i64 b] 29)).alloc (.cells #[.int .i64 p.x, .int .i64 p.y, .int .i64 p.e] 26)).heap.size = w.heap.size + 2 from by simp] at hxs
  replace h := Below.step h hA
  replace hxc := hxc.kept hA
  replace hxp := hxp.kept hA
  clear hA
  obtain ⟨kc0, kc1⟩ := hxc.two
  have lc := hxc.lt
  obtain ⟨kp0, kp1, kp2⟩ := hxp.three
  have lp := hxp.lt
  obtain ⟨ks0, ks1, ks2⟩ := hxs.three
  have ls := hxs.lt
  replace hL := hL.kept h
  go_enter Tryd.func25, Tryd.ntmps25
  go_wp2_with fail
  go_loopw [7] (fun n wr => n = .int .i64 1 ∧ Below w.heap.size w wr ∧ Lim wr ∧ Box wr w.heap.size 29 #[.int .i64 a, .int .i64 b] ∧ Box wr (w.heap.size + 1) 26 #[.int .i64 p.x, .int .i64 p.y, .int .i64 p.e] ∧ Box wr (w.heap.size + 2) 26 #[.int .i64 0, .int .i64 0, .int .i64 0]) (fun n _ => 14 - (intOf n).toNat)
  case atStart => exact ⟨rfl, h, hL, hxc, hxp, hxs⟩
  case round =>
    clear h hL hxc hxp hxs kc0 kc1 lc kp0 kp1 kp2 lp ks0 ks1 ks2 ls
    obtain ⟨rfl, h, hL, hxc, hxp, hxs⟩ := hrel
    obtain ⟨kc0, kc1⟩ := hxc.two
    have lc := hxc.lt
    obtain ⟨kp0, kp1, kp2⟩ := hxp.three
    have lp := hxp.lt
    obtain ⟨ks0, ks1, ks2⟩ := hxs.three
    have ls := hxs.lt
    go_wp2_with fail
    refine (c1.out _ hL).mono ?_
    rintro e w1 ⟨rfl, hb⟩
    replace h := Below.step h hb
    replace hxc := hxc.kept hb
    replace hxp := hxp.kept hb
    replace hxs := hxs.kept hb
    replace hL := hL.kept hb
    clear hb kc0 kc1 lc kp0 kp1 kp2 lp ks0 ks1 ks2 ls
    obtain ⟨kc0, kc1⟩ := hxc.two
    have lc := hxc.lt
    obtain ⟨kp0, kp1, kp2⟩ := hxp.three
    have lp := hxp.lt
    obtain ⟨ks0, ks1, ks2⟩ := hxs.three
    have ls := hxs.lt
    have fs0 := hxs.free 0
    have fs1 := hxs.free 1
    have fs2 := hxs.free 2
    go_wp2_with fail
    go_ret2
    exact ⟨rfl, below_sets3 h (by omega) _ _ _⟩

end Go.Proofs.YtabcnkobojkdhaaDoor
