/- What num / den comes to in lowest terms: the model's frMake, the program's inLowestTerms (written by wip/gen/frlow.py). -/
import Derived.Test.YtfnfhoplpmijaabDoorFrGood
namespace Go.Proofs.YtfnfhoplpmijaabDoor
open Go.RowKit Go.Joins

set_option maxHeartbeats 1000000 in
theorem lowS_yes_pos (n d P Q : Int) (G : Nat) (w : World) (hn0 : -4000000000000000000 ≤ n) (hn1 : n ≤ 4000000000000000000) (hd0 : 0 < d) (hd2 : d ≤ 4000000000000000000)
    (hG : Nat.gcd n.natAbs d.natAbs = G) (hG0 : 0 < G) (hP : n.tdiv (G : Int) = P) (hQ : d / (G : Int) = Q) (hg : FrG P Q) :
    Calls Tryd.prog 39 #[.int .i64 n, .int .i64 d] w (GivesFB w P Q true) := by
  have c1 := fun W => l1Abs_any n W (by omega) (by omega)
  have c2 := fun W => l1Abs_any d W (by omega) (by omega)
  have c3 := fun W => bgCommon_any n.natAbs d.natAbs W (by omega) (by omega)
  rw [hG] at c3
  have e0 : (d == 0) = false := beq_eq_false_iff_ne.2 (by omega)
  replace c1 := Lib.hid c1
  replace c2 := Lib.hid c2
  have e1 : ((G : Int) == 0) = false := beq_eq_false_iff_ne.2 (by omega)
  have hGb : (G : Int) ≤ 4000000000000000000 := by have := Nat.le_of_dvd (by omega) (hG ▸ Nat.gcd_dvd_right n.natAbs d.natAbs); omega
  replace c3 := Lib.hid c3
  replace hP := Lib.hid hP
  replace hQ := Lib.hid hQ
  replace hg := Lib.hid hg
  clear hG
  go_enter Tryd.func39, Tryd.ntmps39
  go_wp2_with fail
  refine (c1.out _).mono ?_
  rintro e w1 ⟨rfl, rfl⟩
  go_wp2_with fail
  refine (c2.out _).mono ?_
  rintro e w1 ⟨rfl, rfl⟩
  go_wp2_with fail
  refine (c3.out _).mono ?_
  rintro e w1 ⟨rfl, rfl⟩
  go_wp2_with fail
  go_region
  rw [hP.out, hQ.out]
  have hA := below_alloc2 w (.cells #[.int .i64 0, .int .i64 0] 24) (.cells #[.int .i64 P, .int .i64 Q] 24)
  have hx := (Box.new w 24 #[.int .i64 0, .int .i64 0]).kept (below_alloc1 _ (.cells #[.int .i64 P, .int .i64 Q] 24))
  have hy := Box.new (w.alloc (.cells #[.int .i64 0, .int .i64 0] 24)) 24 #[.int .i64 P, .int .i64 Q]
  rw [show (w.alloc (.cells #[.int .i64 0, .int .i64 0] 24)).heap.size = w.heap.size + 1 from by simp] at hy
  go_wp2_with fail
  refine (frGood_yes P Q _ hg.out).mono ?_
  rintro e w1 ⟨rfl, hb0⟩
  have hb : Below _ ((w.alloc (.cells #[.int .i64 0, .int .i64 0] 24)).alloc (.cells #[.int .i64 P, .int .i64 Q] 24)) w1 := ⟨hb0.os, hb0.tape, hb0.output, hb0.size, hb0.block⟩
  replace hx := hx.kept hb
  replace hy := hy.kept hb
  replace hA := Below.step hA hb
  clear hb hb0
  obtain ⟨kx0, kx1⟩ := hx.two
  obtain ⟨ky0, ky1⟩ := hy.two
  have fx0 := hx.free 0
  have fx1 := hx.free 1
  go_wp2_with fail
  refine bodyPost_ret (v := .tuple #[.agg #[.int .i64 P, .int .i64 Q], .bool true]) (by simp [results, Tryd.results39, go_sem, kx0, kx1]) rfl ⟨rfl, ?_⟩
  exact (hA.setCell (by first | (simp; done) | (simp; omega)) _).setCell (by first | (simp; done) | (simp; omega)) _

set_option maxHeartbeats 1000000 in
theorem lowI_yes_pos_p (n d P Q : Int) (G : Nat) (w : World) (hL : Lim w) (hn0 : -4000000000000000000 ≤ n) (hn1 : n ≤ 4000000000000000000) (hd0 : 0 < d) (hd2 : d ≤ 4000000000000000000) (hns : 0 ≤ n)
    (hG : Nat.gcd n.natAbs d.natAbs = G) (hG0 : 0 < G) (hP : n.tdiv (G : Int) = P) (hQ : d / (G : Int) = Q) (hg : FrG P Q) :
    Calls Tryd.prog 54 #[.int .i64 n, .int .i64 d] w (GivesFB w P Q true) := by
  have c3 := fun W => commonDivisor_any n.natAbs d.natAbs W (by omega) (by omega)
  rw [hG, show ((n.natAbs : Nat) : Int) = n from by omega, show ((d.natAbs : Nat) : Int) = d from by omega] at c3
  have hm1 : ¬ d < 0 := by omega
  have e1 : ((G : Int) == 0) = false := beq_eq_false_iff_ne.2 (by omega)
  have hGb : (G : Int) ≤ 4000000000000000000 := by have := Nat.le_of_dvd (by omega) (hG ▸ Nat.gcd_dvd_right n.natAbs d.natAbs); omega
  replace c3 := Lib.hid c3
  replace hP := Lib.hid hP
  replace hQ := Lib.hid hQ
  replace hg := Lib.hid hg
  clear hG
  go_enter Tryd.func54, Tryd.ntmps54
  have hx := Box.new w 24 #[.int .i64 0, .int .i64 0]
  have h := below_alloc1 w (.cells #[.int .i64 0, .int .i64 0] 24)
  go_wp2_with fail
  refine (c3.out _).mono ?_
  rintro e w1 ⟨rfl, hb⟩
  replace hx := hx.kept hb
  replace h := Below.step h hb
  clear hb hns
  obtain ⟨kx0, kx1⟩ := hx.two
  have lx := hx.lt
  go_wp2_with fail
  go_region
  rw [hP.out, hQ.out]
  clear kx0 kx1 lx
  have hy := Box.new w1 24 #[.int .i64 P, .int .i64 Q]
  have hA := Below.step h (below_alloc1 w1 (.cells #[.int .i64 P, .int .i64 Q] 24))
  replace hx := hx.kept (below_alloc1 w1 (.cells #[.int .i64 P, .int .i64 Q] 24))
  replace hL := hL.kept hA
  clear h
  obtain ⟨t0, -, -⟩ := hL
  obtain ⟨g1, hg1⟩ : ∃ g, g = w1.heap.size := ⟨_, rfl⟩
  rw [← hg1] at hy ⊢
  clear hg1
  obtain ⟨kx0, kx1⟩ := hx.two
  obtain ⟨ky0, ky1⟩ := hy.two
  have fx0 := hx.free 0
  have fx1 := hx.free 1
  obtain ⟨j1, j2, j3, j4, -⟩ := hg.out
  go_wp2_with fail
  refine (isWithin0_yes _ _ (by exact t0) (by omega) (by omega)).mono ?_
  rintro e w2 ⟨rfl, rfl⟩
  go_wp2_with fail
  refine (isWithin0_yes _ _ (by exact t0) (by omega) (by omega)).mono ?_
  rintro e w2 ⟨rfl, rfl⟩
  go_wp2_with fail
  refine bodyPost_ret (v := .tuple #[.agg #[.int .i64 P, .int .i64 Q], .bool true]) (by simp [results, Tryd.results54, go_sem, kx0, kx1]) rfl ⟨rfl, ?_⟩
  replace hA := Below.drewN' hA 1
  exact (hA.setCell (by first | (simp; done) | (simp; omega)) _).setCell (by first | (simp; done) | (simp; omega)) _

set_option maxHeartbeats 1000000 in
theorem lowI_yes_pos_n (n d P Q : Int) (G : Nat) (w : World) (hL : Lim w) (hn0 : -4000000000000000000 ≤ n) (hn1 : n ≤ 4000000000000000000) (hd0 : 0 < d) (hd2 : d ≤ 4000000000000000000) (hns : n < 0)
    (hG : Nat.gcd n.natAbs d.natAbs = G) (hG0 : 0 < G) (hP : n.tdiv (G : Int) = P) (hQ : d / (G : Int) = Q) (hg : FrG P Q) :
    Calls Tryd.prog 54 #[.int .i64 n, .int .i64 d] w (GivesFB w P Q true) := by
  have c3 := fun W => commonDivisor_any n.natAbs d.natAbs W (by omega) (by omega)
  rw [hG, show ((n.natAbs : Nat) : Int) = -n from by omega, show ((d.natAbs : Nat) : Int) = d from by omega] at c3
  have hm1 : ¬ d < 0 := by omega
  have e1 : ((G : Int) == 0) = false := beq_eq_false_iff_ne.2 (by omega)
  have hGb : (G : Int) ≤ 4000000000000000000 := by have := Nat.le_of_dvd (by omega) (hG ▸ Nat.gcd_dvd_right n.natAbs d.natAbs); omega
  replace c3 := Lib.hid c3
  replace hP := Lib.hid hP
  replace hQ := Lib.hid hQ
  replace hg := Lib.hid hg
  clear hG
  go_enter Tryd.func54, Tryd.ntmps54
  have hx := Box.new w 24 #[.int .i64 0, .int .i64 0]
  have h := below_alloc1 w (.cells #[.int .i64 0, .int .i64 0] 24)
  go_wp2_with fail
  refine (c3.out _).mono ?_
  rintro e w1 ⟨rfl, hb⟩
  replace hx := hx.kept hb
  replace h := Below.step h hb
  clear hb hns
  obtain ⟨kx0, kx1⟩ := hx.two
  have lx := hx.lt
  go_wp2_with fail
  go_region
  rw [hP.out, hQ.out]
  clear kx0 kx1 lx
  have hy := Box.new w1 24 #[.int .i64 P, .int .i64 Q]
  have hA := Below.step h (below_alloc1 w1 (.cells #[.int .i64 P, .int .i64 Q] 24))
  replace hx := hx.kept (below_alloc1 w1 (.cells #[.int .i64 P, .int .i64 Q] 24))
  replace hL := hL.kept hA
  clear h
  obtain ⟨t0, -, -⟩ := hL
  obtain ⟨g1, hg1⟩ : ∃ g, g = w1.heap.size := ⟨_, rfl⟩
  rw [← hg1] at hy ⊢
  clear hg1
  obtain ⟨kx0, kx1⟩ := hx.two
  obtain ⟨ky0, ky1⟩ := hy.two
  have fx0 := hx.free 0
  have fx1 := hx.free 1
  obtain ⟨j1, j2, j3, j4, -⟩ := hg.out
  go_wp2_with fail
  refine (isWithin0_yes _ _ (by exact t0) (by omega) (by omega)).mono ?_
  rintro e w2 ⟨rfl, rfl⟩
  go_wp2_with fail
  refine (isWithin0_yes _ _ (by exact t0) (by omega) (by omega)).mono ?_
  rintro e w2 ⟨rfl, rfl⟩
  go_wp2_with fail
  refine bodyPost_ret (v := .tuple #[.agg #[.int .i64 P, .int .i64 Q], .bool true]) (by simp [results, Tryd.results54, go_sem, kx0, kx1]) rfl ⟨rfl, ?_⟩
  replace hA := Below.drewN' hA 1
  exact (hA.setCell (by first | (simp; done) | (simp; omega)) _).setCell (by first | (simp; done) | (simp; omega)) _

set_option maxHeartbeats 1000000 in
theorem lowS_no_pos (n d P Q : Int) (G : Nat) (w : World) (hn0 : -4000000000000000000 ≤ n) (hn1 : n ≤ 4000000000000000000) (hd0 : 0 < d) (hd2 : d ≤ 4000000000000000000)
    (hG : Nat.gcd n.natAbs d.natAbs = G) (hG0 : 0 < G) (hP : n.tdiv (G : Int) = P) (hQ : d / (G : Int) = Q) (hg : ¬ FrG P Q) :
    Calls Tryd.prog 39 #[.int .i64 n, .int .i64 d] w (GivesFB w 0 0 false) := by
  have c1 := fun W => l1Abs_any n W (by omega) (by omega)
  have c2 := fun W => l1Abs_any d W (by omega) (by omega)
  have c3 := fun W => bgCommon_any n.natAbs d.natAbs W (by omega) (by omega)
  rw [hG] at c3
  have e0 : (d == 0) = false := beq_eq_false_iff_ne.2 (by omega)
  replace c1 := Lib.hid c1
  replace c2 := Lib.hid c2
  have e1 : ((G : Int) == 0) = false := beq_eq_false_iff_ne.2 (by omega)
  have hGb : (G : Int) ≤ 4000000000000000000 := by have := Nat.le_of_dvd (by omega) (hG ▸ Nat.gcd_dvd_right n.natAbs d.natAbs); omega
  replace c3 := Lib.hid c3
  replace hP := Lib.hid hP
  replace hQ := Lib.hid hQ
  replace hg := Lib.hid hg
  clear hG
  go_enter Tryd.func39, Tryd.ntmps39
  go_wp2_with fail
  refine (c1.out _).mono ?_
  rintro e w1 ⟨rfl, rfl⟩
  go_wp2_with fail
  refine (c2.out _).mono ?_
  rintro e w1 ⟨rfl, rfl⟩
  go_wp2_with fail
  refine (c3.out _).mono ?_
  rintro e w1 ⟨rfl, rfl⟩
  go_wp2_with fail
  go_region
  rw [hP.out, hQ.out]
  have hA := below_alloc2 w (.cells #[.int .i64 0, .int .i64 0] 24) (.cells #[.int .i64 P, .int .i64 Q] 24)
  have hx := (Box.new w 24 #[.int .i64 0, .int .i64 0]).kept (below_alloc1 _ (.cells #[.int .i64 P, .int .i64 Q] 24))
  have hy := Box.new (w.alloc (.cells #[.int .i64 0, .int .i64 0] 24)) 24 #[.int .i64 P, .int .i64 Q]
  rw [show (w.alloc (.cells #[.int .i64 0, .int .i64 0] 24)).heap.size = w.heap.size + 1 from by simp] at hy
  go_wp2_with fail
  refine (frGood_no P Q _ hg.out).mono ?_
  rintro e w1 ⟨rfl, hb0⟩
  have hb : Below _ ((w.alloc (.cells #[.int .i64 0, .int .i64 0] 24)).alloc (.cells #[.int .i64 P, .int .i64 Q] 24)) w1 := ⟨hb0.os, hb0.tape, hb0.output, hb0.size, hb0.block⟩
  replace hx := hx.kept hb
  replace hy := hy.kept hb
  replace hA := Below.step hA hb
  clear hb hb0
  obtain ⟨kx0, kx1⟩ := hx.two
  obtain ⟨ky0, ky1⟩ := hy.two
  have fx0 := hx.free 0
  have fx1 := hx.free 1
  go_wp2_with fail
  refine bodyPost_ret (v := .tuple #[.agg #[.int .i64 0, .int .i64 0], .bool false]) (by simp [results, Tryd.results39, go_sem, kx0, kx1]) rfl ⟨rfl, ?_⟩
  exact (hA.setCell (by first | (simp; done) | (simp; omega)) _).setCell (by first | (simp; done) | (simp; omega)) _

set_option maxHeartbeats 1000000 in
theorem lowI_no_pos_p (n d P Q : Int) (G : Nat) (w : World) (hL : Lim w) (hn0 : -4000000000000000000 ≤ n) (hn1 : n ≤ 4000000000000000000) (hd0 : 0 < d) (hd2 : d ≤ 4000000000000000000) (hns : 0 ≤ n)
    (hG : Nat.gcd n.natAbs d.natAbs = G) (hG0 : 0 < G) (hP : n.tdiv (G : Int) = P) (hQ : d / (G : Int) = Q) (hq0 : 0 < Q) (hb9 : 1000000000 < Q ∨ P < -1000000000 ∨ 1000000000 < P) :
    Calls Tryd.prog 54 #[.int .i64 n, .int .i64 d] w (GivesFB w 0 0 false) := by
  have c3 := fun W => commonDivisor_any n.natAbs d.natAbs W (by omega) (by omega)
  rw [hG, show ((n.natAbs : Nat) : Int) = n from by omega, show ((d.natAbs : Nat) : Int) = d from by omega] at c3
  have hm1 : ¬ d < 0 := by omega
  have e1 : ((G : Int) == 0) = false := beq_eq_false_iff_ne.2 (by omega)
  have hGb : (G : Int) ≤ 4000000000000000000 := by have := Nat.le_of_dvd (by omega) (hG ▸ Nat.gcd_dvd_right n.natAbs d.natAbs); omega
  replace c3 := Lib.hid c3
  replace hP := Lib.hid hP
  replace hQ := Lib.hid hQ
  replace hq0 := Lib.hid hq0
  replace hb9 := Lib.hid hb9
  clear hG
  go_enter Tryd.func54, Tryd.ntmps54
  have hx := Box.new w 24 #[.int .i64 0, .int .i64 0]
  have h := below_alloc1 w (.cells #[.int .i64 0, .int .i64 0] 24)
  go_wp2_with fail
  refine (c3.out _).mono ?_
  rintro e w1 ⟨rfl, hb⟩
  replace hx := hx.kept hb
  replace h := Below.step h hb
  clear hb hns
  obtain ⟨kx0, kx1⟩ := hx.two
  have lx := hx.lt
  go_wp2_with fail
  go_region
  rw [hP.out, hQ.out]
  clear kx0 kx1 lx
  have hy := Box.new w1 24 #[.int .i64 P, .int .i64 Q]
  have hA := Below.step h (below_alloc1 w1 (.cells #[.int .i64 P, .int .i64 Q] 24))
  replace hx := hx.kept (below_alloc1 w1 (.cells #[.int .i64 P, .int .i64 Q] 24))
  replace hL := hL.kept hA
  clear h
  obtain ⟨t0, -, -⟩ := hL
  obtain ⟨g1, hg1⟩ : ∃ g, g = w1.heap.size := ⟨_, rfl⟩
  rw [← hg1] at hy ⊢
  clear hg1
  obtain ⟨kx0, kx1⟩ := hx.two
  obtain ⟨ky0, ky1⟩ := hy.two
  have fx0 := hx.free 0
  have fx1 := hx.free 1
  have hq := hq0.out
  by_cases hp : P < -1000000000 ∨ 1000000000 < P
  · go_wp2_with fail
    refine (isWithin0_no _ _ (by exact t0) (by omega)).mono ?_
    rintro e w2 ⟨rfl, rfl⟩
    go_wp2_with fail
    refine bodyPost_ret (v := .tuple #[.agg #[.int .i64 0, .int .i64 0], .bool false]) (by simp [results, Tryd.results54, go_sem, kx0, kx1]) rfl ⟨rfl, ?_⟩
    replace hA := Below.drewN' hA 1
    exact (hA.setCell (by first | (simp; done) | (simp; omega)) _).setCell (by first | (simp; done) | (simp; omega)) _
  · have j1 : -1000000000 ≤ P := by omega
    have j2 : P ≤ 1000000000 := by omega
    have j3 : 1000000000 < Q := by have := hb9.out; omega
    clear hp
    go_wp2_with fail
    refine (isWithin0_yes _ _ (by exact t0) (by omega) (by omega)).mono ?_
    rintro e w2 ⟨rfl, rfl⟩
    go_wp2_with fail
    refine (isWithin0_no _ _ (by exact t0) (by omega)).mono ?_
    rintro e w2 ⟨rfl, rfl⟩
    go_wp2_with fail
    refine bodyPost_ret (v := .tuple #[.agg #[.int .i64 0, .int .i64 0], .bool false]) (by simp [results, Tryd.results54, go_sem, kx0, kx1]) rfl ⟨rfl, ?_⟩
    replace hA := Below.drewN' hA 1
    exact (hA.setCell (by first | (simp; done) | (simp; omega)) _).setCell (by first | (simp; done) | (simp; omega)) _

set_option maxHeartbeats 1000000 in
theorem lowI_no_pos_n (n d P Q : Int) (G : Nat) (w : World) (hL : Lim w) (hn0 : -4000000000000000000 ≤ n) (hn1 : n ≤ 4000000000000000000) (hd0 : 0 < d) (hd2 : d ≤ 4000000000000000000) (hns : n < 0)
    (hG : Nat.gcd n.natAbs d.natAbs = G) (hG0 : 0 < G) (hP : n.tdiv (G : Int) = P) (hQ : d / (G : Int) = Q) (hq0 : 0 < Q) (hb9 : 1000000000 < Q ∨ P < -1000000000 ∨ 1000000000 < P) :
    Calls Tryd.prog 54 #[.int .i64 n, .int .i64 d] w (GivesFB w 0 0 false) := by
  have c3 := fun W => commonDivisor_any n.natAbs d.natAbs W (by omega) (by omega)
  rw [hG, show ((n.natAbs : Nat) : Int) = -n from by omega, show ((d.natAbs : Nat) : Int) = d from by omega] at c3
  have hm1 : ¬ d < 0 := by omega
  have e1 : ((G : Int) == 0) = false := beq_eq_false_iff_ne.2 (by omega)
  have hGb : (G : Int) ≤ 4000000000000000000 := by have := Nat.le_of_dvd (by omega) (hG ▸ Nat.gcd_dvd_right n.natAbs d.natAbs); omega
  replace c3 := Lib.hid c3
  replace hP := Lib.hid hP
  replace hQ := Lib.hid hQ
  replace hq0 := Lib.hid hq0
  replace hb9 := Lib.hid hb9
  clear hG
  go_enter Tryd.func54, Tryd.ntmps54
  have hx := Box.new w 24 #[.int .i64 0, .int .i64 0]
  have h := below_alloc1 w (.cells #[.int .i64 0, .int .i64 0] 24)
  go_wp2_with fail
  refine (c3.out _).mono ?_
  rintro e w1 ⟨rfl, hb⟩
  replace hx := hx.kept hb
  replace h := Below.step h hb
  clear hb hns
  obtain ⟨kx0, kx1⟩ := hx.two
  have lx := hx.lt
  go_wp2_with fail
  go_region
  rw [hP.out, hQ.out]
  clear kx0 kx1 lx
  have hy := Box.new w1 24 #[.int .i64 P, .int .i64 Q]
  have hA := Below.step h (below_alloc1 w1 (.cells #[.int .i64 P, .int .i64 Q] 24))
  replace hx := hx.kept (below_alloc1 w1 (.cells #[.int .i64 P, .int .i64 Q] 24))
  replace hL := hL.kept hA
  clear h
  obtain ⟨t0, -, -⟩ := hL
  obtain ⟨g1, hg1⟩ : ∃ g, g = w1.heap.size := ⟨_, rfl⟩
  rw [← hg1] at hy ⊢
  clear hg1
  obtain ⟨kx0, kx1⟩ := hx.two
  obtain ⟨ky0, ky1⟩ := hy.two
  have fx0 := hx.free 0
  have fx1 := hx.free 1
  have hq := hq0.out
  by_cases hp : P < -1000000000 ∨ 1000000000 < P
  · go_wp2_with fail
    refine (isWithin0_no _ _ (by exact t0) (by omega)).mono ?_
    rintro e w2 ⟨rfl, rfl⟩
    go_wp2_with fail
    refine bodyPost_ret (v := .tuple #[.agg #[.int .i64 0, .int .i64 0], .bool false]) (by simp [results, Tryd.results54, go_sem, kx0, kx1]) rfl ⟨rfl, ?_⟩
    replace hA := Below.drewN' hA 1
    exact (hA.setCell (by first | (simp; done) | (simp; omega)) _).setCell (by first | (simp; done) | (simp; omega)) _
  · have j1 : -1000000000 ≤ P := by omega
    have j2 : P ≤ 1000000000 := by omega
    have j3 : 1000000000 < Q := by have := hb9.out; omega
    clear hp
    go_wp2_with fail
    refine (isWithin0_yes _ _ (by exact t0) (by omega) (by omega)).mono ?_
    rintro e w2 ⟨rfl, rfl⟩
    go_wp2_with fail
    refine (isWithin0_no _ _ (by exact t0) (by omega)).mono ?_
    rintro e w2 ⟨rfl, rfl⟩
    go_wp2_with fail
    refine bodyPost_ret (v := .tuple #[.agg #[.int .i64 0, .int .i64 0], .bool false]) (by simp [results, Tryd.results54, go_sem, kx0, kx1]) rfl ⟨rfl, ?_⟩
    replace hA := Below.drewN' hA 1
    exact (hA.setCell (by first | (simp; done) | (simp; omega)) _).setCell (by first | (simp; done) | (simp; omega)) _

set_option maxHeartbeats 1000000 in
theorem lowS_yes_neg (n d P Q : Int) (G : Nat) (w : World) (hn0 : -4000000000000000000 ≤ n) (hn1 : n ≤ 4000000000000000000) (hd0 : d < 0) (hd1 : -4000000000000000000 ≤ d)
    (hG : Nat.gcd n.natAbs d.natAbs = G) (hG0 : 0 < G) (hP : wrap64 (-(n.tdiv (G : Int))) = P) (hQ : wrap64 (-(d.tdiv (G : Int))) = Q) (hg : FrG P Q) :
    Calls Tryd.prog 39 #[.int .i64 n, .int .i64 d] w (GivesFB w P Q true) := by
  have c1 := fun W => l1Abs_any n W (by omega) (by omega)
  have c2 := fun W => l1Abs_any d W (by omega) (by omega)
  have c3 := fun W => bgCommon_any n.natAbs d.natAbs W (by omega) (by omega)
  rw [hG] at c3
  have e0 : (d == 0) = false := beq_eq_false_iff_ne.2 (by omega)
  replace c1 := Lib.hid c1
  replace c2 := Lib.hid c2
  have e1 : (-(G : Int) == 0) = false := beq_eq_false_iff_ne.2 (by omega)
  have e2 : ((G : Int) == 0) = false := beq_eq_false_iff_ne.2 (by omega)
  have hGb : (G : Int) ≤ 4000000000000000000 := by have := Nat.le_of_dvd (by omega) (hG ▸ Nat.gcd_dvd_right n.natAbs d.natAbs); omega
  replace c3 := Lib.hid c3
  replace hP := Lib.hid hP
  replace hQ := Lib.hid hQ
  replace hg := Lib.hid hg
  clear hG
  go_enter Tryd.func39, Tryd.ntmps39
  go_wp2_with fail
  refine (c1.out _).mono ?_
  rintro e w1 ⟨rfl, rfl⟩
  go_wp2_with fail
  refine (c2.out _).mono ?_
  rintro e w1 ⟨rfl, rfl⟩
  go_wp2_with fail
  refine (c3.out _).mono ?_
  rintro e w1 ⟨rfl, rfl⟩
  go_wp2_with fail
  go_region
  rw [hP.out, hQ.out]
  have hA := below_alloc2 w (.cells #[.int .i64 0, .int .i64 0] 24) (.cells #[.int .i64 P, .int .i64 Q] 24)
  have hx := (Box.new w 24 #[.int .i64 0, .int .i64 0]).kept (below_alloc1 _ (.cells #[.int .i64 P, .int .i64 Q] 24))
  have hy := Box.new (w.alloc (.cells #[.int .i64 0, .int .i64 0] 24)) 24 #[.int .i64 P, .int .i64 Q]
  rw [show (w.alloc (.cells #[.int .i64 0, .int .i64 0] 24)).heap.size = w.heap.size + 1 from by simp] at hy
  go_wp2_with fail
  refine (frGood_yes P Q _ hg.out).mono ?_
  rintro e w1 ⟨rfl, hb0⟩
  have hb : Below _ ((w.alloc (.cells #[.int .i64 0, .int .i64 0] 24)).alloc (.cells #[.int .i64 P, .int .i64 Q] 24)) w1 := ⟨hb0.os, hb0.tape, hb0.output, hb0.size, hb0.block⟩
  replace hx := hx.kept hb
  replace hy := hy.kept hb
  replace hA := Below.step hA hb
  clear hb hb0
  obtain ⟨kx0, kx1⟩ := hx.two
  obtain ⟨ky0, ky1⟩ := hy.two
  have fx0 := hx.free 0
  have fx1 := hx.free 1
  go_wp2_with fail
  refine bodyPost_ret (v := .tuple #[.agg #[.int .i64 P, .int .i64 Q], .bool true]) (by simp [results, Tryd.results39, go_sem, kx0, kx1]) rfl ⟨rfl, ?_⟩
  exact (hA.setCell (by first | (simp; done) | (simp; omega)) _).setCell (by first | (simp; done) | (simp; omega)) _

set_option maxHeartbeats 1000000 in
theorem lowI_yes_neg_p (n d P Q : Int) (G : Nat) (w : World) (hL : Lim w) (hn0 : -4000000000000000000 ≤ n) (hn1 : n ≤ 4000000000000000000) (hd0 : d < 0) (hd1 : -4000000000000000000 ≤ d) (hns : 0 ≤ n)
    (hG : Nat.gcd n.natAbs d.natAbs = G) (hG0 : 0 < G) (hP : wrap64 (-(n.tdiv (G : Int))) = P) (hQ : wrap64 (-(d.tdiv (G : Int))) = Q) (hg : FrG P Q) :
    Calls Tryd.prog 54 #[.int .i64 n, .int .i64 d] w (GivesFB w P Q true) := by
  have c3 := fun W => commonDivisor_any n.natAbs d.natAbs W (by omega) (by omega)
  rw [hG, show ((n.natAbs : Nat) : Int) = n from by omega, show ((d.natAbs : Nat) : Int) = -d from by omega] at c3
  have hm1 : d < 0 := hd0
  have e1 : (-(G : Int) == 0) = false := beq_eq_false_iff_ne.2 (by omega)
  have e2 : ((G : Int) == 0) = false := beq_eq_false_iff_ne.2 (by omega)
  have hGb : (G : Int) ≤ 4000000000000000000 := by have := Nat.le_of_dvd (by omega) (hG ▸ Nat.gcd_dvd_right n.natAbs d.natAbs); omega
  replace c3 := Lib.hid c3
  replace hP := Lib.hid hP
  replace hQ := Lib.hid hQ
  replace hg := Lib.hid hg
  clear hG
  go_enter Tryd.func54, Tryd.ntmps54
  have hx := Box.new w 24 #[.int .i64 0, .int .i64 0]
  have h := below_alloc1 w (.cells #[.int .i64 0, .int .i64 0] 24)
  go_wp2_with fail
  refine (c3.out _).mono ?_
  rintro e w1 ⟨rfl, hb⟩
  replace hx := hx.kept hb
  replace h := Below.step h hb
  clear hb hns
  obtain ⟨kx0, kx1⟩ := hx.two
  have lx := hx.lt
  go_wp2_with fail
  go_region
  rw [hP.out, hQ.out]
  clear kx0 kx1 lx
  have hy := Box.new w1 24 #[.int .i64 P, .int .i64 Q]
  have hA := Below.step h (below_alloc1 w1 (.cells #[.int .i64 P, .int .i64 Q] 24))
  replace hx := hx.kept (below_alloc1 w1 (.cells #[.int .i64 P, .int .i64 Q] 24))
  replace hL := hL.kept hA
  clear h
  obtain ⟨t0, -, -⟩ := hL
  obtain ⟨g1, hg1⟩ : ∃ g, g = w1.heap.size := ⟨_, rfl⟩
  rw [← hg1] at hy ⊢
  clear hg1
  obtain ⟨kx0, kx1⟩ := hx.two
  obtain ⟨ky0, ky1⟩ := hy.two
  have fx0 := hx.free 0
  have fx1 := hx.free 1
  obtain ⟨j1, j2, j3, j4, -⟩ := hg.out
  go_wp2_with fail
  refine (isWithin0_yes _ _ (by exact t0) (by omega) (by omega)).mono ?_
  rintro e w2 ⟨rfl, rfl⟩
  go_wp2_with fail
  refine (isWithin0_yes _ _ (by exact t0) (by omega) (by omega)).mono ?_
  rintro e w2 ⟨rfl, rfl⟩
  go_wp2_with fail
  refine bodyPost_ret (v := .tuple #[.agg #[.int .i64 P, .int .i64 Q], .bool true]) (by simp [results, Tryd.results54, go_sem, kx0, kx1]) rfl ⟨rfl, ?_⟩
  replace hA := Below.drewN' hA 1
  exact (hA.setCell (by first | (simp; done) | (simp; omega)) _).setCell (by first | (simp; done) | (simp; omega)) _

set_option maxHeartbeats 1000000 in
theorem lowI_yes_neg_n (n d P Q : Int) (G : Nat) (w : World) (hL : Lim w) (hn0 : -4000000000000000000 ≤ n) (hn1 : n ≤ 4000000000000000000) (hd0 : d < 0) (hd1 : -4000000000000000000 ≤ d) (hns : n < 0)
    (hG : Nat.gcd n.natAbs d.natAbs = G) (hG0 : 0 < G) (hP : wrap64 (-(n.tdiv (G : Int))) = P) (hQ : wrap64 (-(d.tdiv (G : Int))) = Q) (hg : FrG P Q) :
    Calls Tryd.prog 54 #[.int .i64 n, .int .i64 d] w (GivesFB w P Q true) := by
  have c3 := fun W => commonDivisor_any n.natAbs d.natAbs W (by omega) (by omega)
  rw [hG, show ((n.natAbs : Nat) : Int) = -n from by omega, show ((d.natAbs : Nat) : Int) = -d from by omega] at c3
  have hm1 : d < 0 := hd0
  have e1 : (-(G : Int) == 0) = false := beq_eq_false_iff_ne.2 (by omega)
  have e2 : ((G : Int) == 0) = false := beq_eq_false_iff_ne.2 (by omega)
  have hGb : (G : Int) ≤ 4000000000000000000 := by have := Nat.le_of_dvd (by omega) (hG ▸ Nat.gcd_dvd_right n.natAbs d.natAbs); omega
  replace c3 := Lib.hid c3
  replace hP := Lib.hid hP
  replace hQ := Lib.hid hQ
  replace hg := Lib.hid hg
  clear hG
  go_enter Tryd.func54, Tryd.ntmps54
  have hx := Box.new w 24 #[.int .i64 0, .int .i64 0]
  have h := below_alloc1 w (.cells #[.int .i64 0, .int .i64 0] 24)
  go_wp2_with fail
  refine (c3.out _).mono ?_
  rintro e w1 ⟨rfl, hb⟩
  replace hx := hx.kept hb
  replace h := Below.step h hb
  clear hb hns
  obtain ⟨kx0, kx1⟩ := hx.two
  have lx := hx.lt
  go_wp2_with fail
  go_region
  rw [hP.out, hQ.out]
  clear kx0 kx1 lx
  have hy := Box.new w1 24 #[.int .i64 P, .int .i64 Q]
  have hA := Below.step h (below_alloc1 w1 (.cells #[.int .i64 P, .int .i64 Q] 24))
  replace hx := hx.kept (below_alloc1 w1 (.cells #[.int .i64 P, .int .i64 Q] 24))
  replace hL := hL.kept hA
  clear h
  obtain ⟨t0, -, -⟩ := hL
  obtain ⟨g1, hg1⟩ : ∃ g, g = w1.heap.size := ⟨_, rfl⟩
  rw [← hg1] at hy ⊢
  clear hg1
  obtain ⟨kx0, kx1⟩ := hx.two
  obtain ⟨ky0, ky1⟩ := hy.two
  have fx0 := hx.free 0
  have fx1 := hx.free 1
  obtain ⟨j1, j2, j3, j4, -⟩ := hg.out
  go_wp2_with fail
  refine (isWithin0_yes _ _ (by exact t0) (by omega) (by omega)).mono ?_
  rintro e w2 ⟨rfl, rfl⟩
  go_wp2_with fail
  refine (isWithin0_yes _ _ (by exact t0) (by omega) (by omega)).mono ?_
  rintro e w2 ⟨rfl, rfl⟩
  go_wp2_with fail
  refine bodyPost_ret (v := .tuple #[.agg #[.int .i64 P, .int .i64 Q], .bool true]) (by simp [results, Tryd.results54, go_sem, kx0, kx1]) rfl ⟨rfl, ?_⟩
  replace hA := Below.drewN' hA 1
  exact (hA.setCell (by first | (simp; done) | (simp; omega)) _).setCell (by first | (simp; done) | (simp; omega)) _

set_option maxHeartbeats 1000000 in
theorem lowS_no_neg (n d P Q : Int) (G : Nat) (w : World) (hn0 : -4000000000000000000 ≤ n) (hn1 : n ≤ 4000000000000000000) (hd0 : d < 0) (hd1 : -4000000000000000000 ≤ d)
    (hG : Nat.gcd n.natAbs d.natAbs = G) (hG0 : 0 < G) (hP : wrap64 (-(n.tdiv (G : Int))) = P) (hQ : wrap64 (-(d.tdiv (G : Int))) = Q) (hg : ¬ FrG P Q) :
    Calls Tryd.prog 39 #[.int .i64 n, .int .i64 d] w (GivesFB w 0 0 false) := by
  have c1 := fun W => l1Abs_any n W (by omega) (by omega)
  have c2 := fun W => l1Abs_any d W (by omega) (by omega)
  have c3 := fun W => bgCommon_any n.natAbs d.natAbs W (by omega) (by omega)
  rw [hG] at c3
  have e0 : (d == 0) = false := beq_eq_false_iff_ne.2 (by omega)
  replace c1 := Lib.hid c1
  replace c2 := Lib.hid c2
  have e1 : (-(G : Int) == 0) = false := beq_eq_false_iff_ne.2 (by omega)
  have e2 : ((G : Int) == 0) = false := beq_eq_false_iff_ne.2 (by omega)
  have hGb : (G : Int) ≤ 4000000000000000000 := by have := Nat.le_of_dvd (by omega) (hG ▸ Nat.gcd_dvd_right n.natAbs d.natAbs); omega
  replace c3 := Lib.hid c3
  replace hP := Lib.hid hP
  replace hQ := Lib.hid hQ
  replace hg := Lib.hid hg
  clear hG
  go_enter Tryd.func39, Tryd.ntmps39
  go_wp2_with fail
  refine (c1.out _).mono ?_
  rintro e w1 ⟨rfl, rfl⟩
  go_wp2_with fail
  refine (c2.out _).mono ?_
  rintro e w1 ⟨rfl, rfl⟩
  go_wp2_with fail
  refine (c3.out _).mono ?_
  rintro e w1 ⟨rfl, rfl⟩
  go_wp2_with fail
  go_region
  rw [hP.out, hQ.out]
  have hA := below_alloc2 w (.cells #[.int .i64 0, .int .i64 0] 24) (.cells #[.int .i64 P, .int .i64 Q] 24)
  have hx := (Box.new w 24 #[.int .i64 0, .int .i64 0]).kept (below_alloc1 _ (.cells #[.int .i64 P, .int .i64 Q] 24))
  have hy := Box.new (w.alloc (.cells #[.int .i64 0, .int .i64 0] 24)) 24 #[.int .i64 P, .int .i64 Q]
  rw [show (w.alloc (.cells #[.int .i64 0, .int .i64 0] 24)).heap.size = w.heap.size + 1 from by simp] at hy
  go_wp2_with fail
  refine (frGood_no P Q _ hg.out).mono ?_
  rintro e w1 ⟨rfl, hb0⟩
  have hb : Below _ ((w.alloc (.cells #[.int .i64 0, .int .i64 0] 24)).alloc (.cells #[.int .i64 P, .int .i64 Q] 24)) w1 := ⟨hb0.os, hb0.tape, hb0.output, hb0.size, hb0.block⟩
  replace hx := hx.kept hb
  replace hy := hy.kept hb
  replace hA := Below.step hA hb
  clear hb hb0
  obtain ⟨kx0, kx1⟩ := hx.two
  obtain ⟨ky0, ky1⟩ := hy.two
  have fx0 := hx.free 0
  have fx1 := hx.free 1
  go_wp2_with fail
  refine bodyPost_ret (v := .tuple #[.agg #[.int .i64 0, .int .i64 0], .bool false]) (by simp [results, Tryd.results39, go_sem, kx0, kx1]) rfl ⟨rfl, ?_⟩
  exact (hA.setCell (by first | (simp; done) | (simp; omega)) _).setCell (by first | (simp; done) | (simp; omega)) _

set_option maxHeartbeats 1000000 in
theorem lowI_no_neg_p (n d P Q : Int) (G : Nat) (w : World) (hL : Lim w) (hn0 : -4000000000000000000 ≤ n) (hn1 : n ≤ 4000000000000000000) (hd0 : d < 0) (hd1 : -4000000000000000000 ≤ d) (hns : 0 ≤ n)
    (hG : Nat.gcd n.natAbs d.natAbs = G) (hG0 : 0 < G) (hP : wrap64 (-(n.tdiv (G : Int))) = P) (hQ : wrap64 (-(d.tdiv (G : Int))) = Q) (hq0 : 0 < Q) (hb9 : 1000000000 < Q ∨ P < -1000000000 ∨ 1000000000 < P) :
    Calls Tryd.prog 54 #[.int .i64 n, .int .i64 d] w (GivesFB w 0 0 false) := by
  have c3 := fun W => commonDivisor_any n.natAbs d.natAbs W (by omega) (by omega)
  rw [hG, show ((n.natAbs : Nat) : Int) = n from by omega, show ((d.natAbs : Nat) : Int) = -d from by omega] at c3
  have hm1 : d < 0 := hd0
  have e1 : (-(G : Int) == 0) = false := beq_eq_false_iff_ne.2 (by omega)
  have e2 : ((G : Int) == 0) = false := beq_eq_false_iff_ne.2 (by omega)
  have hGb : (G : Int) ≤ 4000000000000000000 := by have := Nat.le_of_dvd (by omega) (hG ▸ Nat.gcd_dvd_right n.natAbs d.natAbs); omega
  replace c3 := Lib.hid c3
  replace hP := Lib.hid hP
  replace hQ := Lib.hid hQ
  replace hq0 := Lib.hid hq0
  replace hb9 := Lib.hid hb9
  clear hG
  go_enter Tryd.func54, Tryd.ntmps54
  have hx := Box.new w 24 #[.int .i64 0, .int .i64 0]
  have h := below_alloc1 w (.cells #[.int .i64 0, .int .i64 0] 24)
  go_wp2_with fail
  refine (c3.out _).mono ?_
  rintro e w1 ⟨rfl, hb⟩
  replace hx := hx.kept hb
  replace h := Below.step h hb
  clear hb hns
  obtain ⟨kx0, kx1⟩ := hx.two
  have lx := hx.lt
  go_wp2_with fail
  go_region
  rw [hP.out, hQ.out]
  clear kx0 kx1 lx
  have hy := Box.new w1 24 #[.int .i64 P, .int .i64 Q]
  have hA := Below.step h (below_alloc1 w1 (.cells #[.int .i64 P, .int .i64 Q] 24))
  replace hx := hx.kept (below_alloc1 w1 (.cells #[.int .i64 P, .int .i64 Q] 24))
  replace hL := hL.kept hA
  clear h
  obtain ⟨t0, -, -⟩ := hL
  obtain ⟨g1, hg1⟩ : ∃ g, g = w1.heap.size := ⟨_, rfl⟩
  rw [← hg1] at hy ⊢
  clear hg1
  obtain ⟨kx0, kx1⟩ := hx.two
  obtain ⟨ky0, ky1⟩ := hy.two
  have fx0 := hx.free 0
  have fx1 := hx.free 1
  have hq := hq0.out
  by_cases hp : P < -1000000000 ∨ 1000000000 < P
  · go_wp2_with fail
    refine (isWithin0_no _ _ (by exact t0) (by omega)).mono ?_
    rintro e w2 ⟨rfl, rfl⟩
    go_wp2_with fail
    refine bodyPost_ret (v := .tuple #[.agg #[.int .i64 0, .int .i64 0], .bool false]) (by simp [results, Tryd.results54, go_sem, kx0, kx1]) rfl ⟨rfl, ?_⟩
    replace hA := Below.drewN' hA 1
    exact (hA.setCell (by first | (simp; done) | (simp; omega)) _).setCell (by first | (simp; done) | (simp; omega)) _
  · have j1 : -1000000000 ≤ P := by omega
    have j2 : P ≤ 1000000000 := by omega
    have j3 : 1000000000 < Q := by have := hb9.out; omega
    clear hp
    go_wp2_with fail
    refine (isWithin0_yes _ _ (by exact t0) (by omega) (by omega)).mono ?_
    rintro e w2 ⟨rfl, rfl⟩
    go_wp2_with fail
    refine (isWithin0_no _ _ (by exact t0) (by omega)).mono ?_
    rintro e w2 ⟨rfl, rfl⟩
    go_wp2_with fail
    refine bodyPost_ret (v := .tuple #[.agg #[.int .i64 0, .int .i64 0], .bool false]) (by simp [results, Tryd.results54, go_sem, kx0, kx1]) rfl ⟨rfl, ?_⟩
    replace hA := Below.drewN' hA 1
    exact (hA.setCell (by first | (simp; done) | (simp; omega)) _).setCell (by first | (simp; done) | (simp; omega)) _

set_option maxHeartbeats 1000000 in
theorem lowI_no_neg_n (n d P Q : Int) (G : Nat) (w : World) (hL : Lim w) (hn0 : -4000000000000000000 ≤ n) (hn1 : n ≤ 4000000000000000000) (hd0 : d < 0) (hd1 : -4000000000000000000 ≤ d) (hns : n < 0)
    (hG : Nat.gcd n.natAbs d.natAbs = G) (hG0 : 0 < G) (hP : wrap64 (-(n.tdiv (G : Int))) = P) (hQ : wrap64 (-(d.tdiv (G : Int))) = Q) (hq0 : 0 < Q) (hb9 : 1000000000 < Q ∨ P < -1000000000 ∨ 1000000000 < P) :
    Calls Tryd.prog 54 #[.int .i64 n, .int .i64 d] w (GivesFB w 0 0 false) := by
  have c3 := fun W => commonDivisor_any n.natAbs d.natAbs W (by omega) (by omega)
  rw [hG, show ((n.natAbs : Nat) : Int) = -n from by omega, show ((d.natAbs : Nat) : Int) = -d from by omega] at c3
  have hm1 : d < 0 := hd0
  have e1 : (-(G : Int) == 0) = false := beq_eq_false_iff_ne.2 (by omega)
  have e2 : ((G : Int) == 0) = false := beq_eq_false_iff_ne.2 (by omega)
  have hGb : (G : Int) ≤ 4000000000000000000 := by have := Nat.le_of_dvd (by omega) (hG ▸ Nat.gcd_dvd_right n.natAbs d.natAbs); omega
  replace c3 := Lib.hid c3
  replace hP := Lib.hid hP
  replace hQ := Lib.hid hQ
  replace hq0 := Lib.hid hq0
  replace hb9 := Lib.hid hb9
  clear hG
  go_enter Tryd.func54, Tryd.ntmps54
  have hx := Box.new w 24 #[.int .i64 0, .int .i64 0]
  have h := below_alloc1 w (.cells #[.int .i64 0, .int .i64 0] 24)
  go_wp2_with fail
  refine (c3.out _).mono ?_
  rintro e w1 ⟨rfl, hb⟩
  replace hx := hx.kept hb
  replace h := Below.step h hb
  clear hb hns
  obtain ⟨kx0, kx1⟩ := hx.two
  have lx := hx.lt
  go_wp2_with fail
  go_region
  rw [hP.out, hQ.out]
  clear kx0 kx1 lx
  have hy := Box.new w1 24 #[.int .i64 P, .int .i64 Q]
  have hA := Below.step h (below_alloc1 w1 (.cells #[.int .i64 P, .int .i64 Q] 24))
  replace hx := hx.kept (below_alloc1 w1 (.cells #[.int .i64 P, .int .i64 Q] 24))
  replace hL := hL.kept hA
  clear h
  obtain ⟨t0, -, -⟩ := hL
  obtain ⟨g1, hg1⟩ : ∃ g, g = w1.heap.size := ⟨_, rfl⟩
  rw [← hg1] at hy ⊢
  clear hg1
  obtain ⟨kx0, kx1⟩ := hx.two
  obtain ⟨ky0, ky1⟩ := hy.two
  have fx0 := hx.free 0
  have fx1 := hx.free 1
  have hq := hq0.out
  by_cases hp : P < -1000000000 ∨ 1000000000 < P
  · go_wp2_with fail
    refine (isWithin0_no _ _ (by exact t0) (by omega)).mono ?_
    rintro e w2 ⟨rfl, rfl⟩
    go_wp2_with fail
    refine bodyPost_ret (v := .tuple #[.agg #[.int .i64 0, .int .i64 0], .bool false]) (by simp [results, Tryd.results54, go_sem, kx0, kx1]) rfl ⟨rfl, ?_⟩
    replace hA := Below.drewN' hA 1
    exact (hA.setCell (by first | (simp; done) | (simp; omega)) _).setCell (by first | (simp; done) | (simp; omega)) _
  · have j1 : -1000000000 ≤ P := by omega
    have j2 : P ≤ 1000000000 := by omega
    have j3 : 1000000000 < Q := by have := hb9.out; omega
    clear hp
    go_wp2_with fail
    refine (isWithin0_yes _ _ (by exact t0) (by omega) (by omega)).mono ?_
    rintro e w2 ⟨rfl, rfl⟩
    go_wp2_with fail
    refine (isWithin0_no _ _ (by exact t0) (by omega)).mono ?_
    rintro e w2 ⟨rfl, rfl⟩
    go_wp2_with fail
    refine bodyPost_ret (v := .tuple #[.agg #[.int .i64 0, .int .i64 0], .bool false]) (by simp [results, Tryd.results54, go_sem, kx0, kx1]) rfl ⟨rfl, ?_⟩
    replace hA := Below.drewN' hA 1
    exact (hA.setCell (by first | (simp; done) | (simp; omega)) _).setCell (by first | (simp; done) | (simp; omega)) _
end Go.Proofs.YtfnfhoplpmijaabDoor
