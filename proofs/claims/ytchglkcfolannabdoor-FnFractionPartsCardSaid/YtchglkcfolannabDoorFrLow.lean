/- What num / den comes to in lowest terms: the model's frMake, the program's inLowestTerms (written by wip/gen/frlow.py). -/
import Derived.Test.YtchglkcfolannabDoorFrGood
namespace Go.Proofs.YtchglkcfolannabDoor
open Go.RowKit Go.Joins

set_option maxHeartbeats 1000000 in
theorem lowS_yes_pos (n d P Q : Int) (G : Nat) (w : World) (hn0 : -4000000000000000000 ≤ n) (hn1 : n ≤ 4000000000000000000) (hd0 : 0 < d) (hd2 : d ≤ 4000000000000000000)
    (hG : Nat.gcd n.natAbs d.natAbs = G) (hG0 : 0 < G) (hP : n.tdiv (G : Int) = P) (hQ : d / (G : Int) = Q) (hg : FrG P Q) :
    Calls Tryd.prog 39 #[.int .i64 n, .int .i64 d] w (GivesFB w P Q true) := by
  have c1 := fun W => l1Abs_any n W (by omega) (by omega)
  have c2 := fun W => l1Abs_any d W (by omega) (by omega)
  have c3 := fun W => bgCommon_any n.natAbs d.natAbs W (by omega) (by omega)
  rw [hG] at c3
  have e0 : (d == 0) = false := beq_eq_false_iff_ne.2 (by omega)
  replace c1 := Lib.hid c1
  replace c2 := Lib.hid c2
  have e1 : ((G : Int) == 0) = false := beq_eq_false_iff_ne.2 (by omega)
  have hGb : (G : Int) ≤ 4000000000000000000 := by have := Nat.le_of_dvd (by omega) (hG ▸ Nat.gcd_dvd_right n.natAbs d.natAbs); omega
  replace c3 := Lib.hid c3
  replace hP := Lib.hid hP
  replace hQ := Lib.hid hQ
  replace hg := Lib.hid hg
  clear hG
  go_enter Tryd.func39, Tryd.ntmps39
  go_wp2_with fail
  refine (c1.out _).mono ?_
  rintro e w1 ⟨rfl, rfl⟩
  go_wp2_with fail
  refine (c2.out _).mono ?_
  rintro e w1 ⟨rfl, rfl⟩
  go_wp2_with fail
  refine (c3.out _).mono ?_
  rintro e w1 ⟨rfl, rfl⟩
  go_wp2_with fail
  go_region
  rw [hP.out, hQ.out]
  have hA := below_alloc2 w (.cells #[.int .i64 0, .int .i64 0] 24) (.cells #[.int .i64 P, .int .i64 Q] 24)
  have hx := (Box.new w 24 #[.int .i64 0, .int .i64 0]).kept (below_alloc1 _ (.cells #[.int .i64 P, .int .i64 Q] 24))
  have hy := Box.new (w.alloc (.cells #[.int .i64 0, .int .i64 0] 24)) 24 #[.int .i64 P, .int .i64 Q]
  rw [show (w.alloc (.cells #[.int .i64 0, .int .i64 0] 24)).heap.size = w.heap.size + 1 from by simp] at hy
  go_wp2_with fail
  refine (frGood_yes P Q _ hg.out).mono ?_
  rintro e w1 ⟨rfl, hb0⟩
  have hb : Below _ ((w.alloc (.cells #[.int .i64 0, .int .i64 0] 24)).alloc (.cells #[.int .i64 P, .int .i64 Q] 24)) w1 := ⟨hb0.os, hb0.tape, hb0.output, hb0.size, hb0.block⟩
  replace hx := hx.kept hb
  replace hy := hy.kept hb
  replace hA := Below.step hA hb
  clear hb hb0
  obtain ⟨kx0, kx1⟩ := hx.two
  obtain ⟨ky0, ky1⟩ := hy.two
  have fx0 := hx.free 0
  have fx1 := hx.free 1
  go_wp2_with fail
  refine bodyPost_ret (v := .tuple #[.agg #[.int .i64 P, .int .i64 Q], .bool true]) (by simp [results, Tryd.results39, go_sem, kx0, kx1]) rfl ⟨rfl, ?_⟩
  exact (hA.setCell (by first | (simp; done) | (simp; omega)) _).setCell (by first | (simp; done) | (simp; omega)) _

set_option maxHeartbeats 1000000 in
theorem lowS_no_pos (n d P Q : Int) (G : Nat) (w : World) (hn0 : -4000000000000000000 ≤ n) (hn1 : n ≤ 4000000000000000000) (hd0 : 0 < d) (hd2 : d ≤ 4000000000000000000)
    (hG : Nat.gcd n.natAbs d.natAbs = G) (hG0 : 0 < G) (hP : n.tdiv (G : Int) = P) (hQ : d / (G : Int) = Q) (hg : ¬ FrG P Q) :
    Calls Tryd.prog 39 #[.int .i64 n, .int .i64 d] w (GivesFB w 0 0 false) := by
  have c1 := fun W => l1Abs_any n W (by omega) (by omega)
  have c2 := fun W => l1Abs_any d W (by omega) (by omega)
  have c3 := fun W => bgCommon_any n.natAbs d.natAbs W (by omega) (by omega)
  rw [hG] at c3
  have e0 : (d == 0) = false := beq_eq_false_iff_ne.2 (by omega)
  replace c1 := Lib.hid c1
  replace c2 := Lib.hid c2
  have e1 : ((G : Int) == 0) = false := beq_eq_false_iff_ne.2 (by omega)
  have hGb : (G : Int) ≤ 4000000000000000000 := by have := Nat.le_of_dvd (by omega) (hG ▸ Nat.gcd_dvd_right n.natAbs d.natAbs); omega
  replace c3 := Lib.hid c3
  replace hP := Lib.hid hP
  replace hQ := Lib.hid hQ
  replace hg := Lib.hid hg
  clear hG
  go_enter Tryd.func39, Tryd.ntmps39
  go_wp2_with fail
  refine (c1.out _).mono ?_
  rintro e w1 ⟨rfl, rfl⟩
  go_wp2_with fail
  refine (c2.out _).mono ?_
  rintro e w1 ⟨rfl, rfl⟩
  go_wp2_with fail
  refine (c3.out _).mono ?_
  rintro e w1 ⟨rfl, rfl⟩
  go_wp2_with fail
  go_region
  rw [hP.out, hQ.out]
  have hA := below_alloc2 w (.cells #[.int .i64 0, .int .i64 0] 24) (.cells #[.int .i64 P, .int .i64 Q] 24)
  have hx := (Box.new w 24 #[.int .i64 0, .int .i64 0]).kept (below_alloc1 _ (.cells #[.int .i64 P, .int .i64 Q] 24))
  have hy := Box.new (w.alloc (.cells #[.int .i64 0, .int .i64 0] 24)) 24 #[.int .i64 P, .int .i64 Q]
  rw [show (w.alloc (.cells #[.int .i64 0, .int .i64 0] 24)).heap.size = w.heap.size + 1 from by simp] at hy
  go_wp2_with fail
  refine (frGood_no P Q _ hg.out).mono ?_
  rintro e w1 ⟨rfl, hb0⟩
  have hb : Below _ ((w.alloc (.cells #[.int .i64 0, .int .i64 0] 24)).alloc (.cells #[.int .i64 P, .int .i64 Q] 24)) w1 := ⟨hb0.os, hb0.tape, hb0.output, hb0.size, hb0.block⟩
  replace hx := hx.kept hb
  replace hy := hy.kept hb
  replace hA := Below.step hA hb
  clear hb hb0
  obtain ⟨kx0, kx1⟩ := hx.two
  obtain ⟨ky0, ky1⟩ := hy.two
  have fx0 := hx.free 0
  have fx1 := hx.free 1
  go_wp2_with fail
  refine bodyPost_ret (v := .tuple #[.agg #[.int .i64 0, .int .i64 0], .bool false]) (by simp [results, Tryd.results39, go_sem, kx0, kx1]) rfl ⟨rfl, ?_⟩
  exact (hA.setCell (by first | (simp; done) | (simp; omega)) _).setCell (by first | (simp; done) | (simp; omega)) _

set_option maxHeartbeats 1000000 in
theorem lowS_yes_neg (n d P Q : Int) (G : Nat) (w : World) (hn0 : -4000000000000000000 ≤ n) (hn1 : n ≤ 4000000000000000000) (hd0 : d < 0) (hd1 : -4000000000000000000 ≤ d)
    (hG : Nat.gcd n.natAbs d.natAbs = G) (hG0 : 0 < G) (hP : wrap64 (-(n.tdiv (G : Int))) = P) (hQ : wrap64 (-(d.tdiv (G : Int))) = Q) (hg : FrG P Q) :
    Calls Tryd.prog 39 #[.int .i64 n, .int .i64 d] w (GivesFB w P Q true) := by
  have c1 := fun W => l1Abs_any n W (by omega) (by omega)
  have c2 := fun W => l1Abs_any d W (by omega) (by omega)
  have c3 := fun W => bgCommon_any n.natAbs d.natAbs W (by omega) (by omega)
  rw [hG] at c3
  have e0 : (d == 0) = false := beq_eq_false_iff_ne.2 (by omega)
  replace c1 := Lib.hid c1
  replace c2 := Lib.hid c2
  have e1 : (-(G : Int) == 0) = false := beq_eq_false_iff_ne.2 (by omega)
  have e2 : ((G : Int) == 0) = false := beq_eq_false_iff_ne.2 (by omega)
  have hGb : (G : Int) ≤ 4000000000000000000 := by have := Nat.le_of_dvd (by omega) (hG ▸ Nat.gcd_dvd_right n.natAbs d.natAbs); omega
  replace c3 := Lib.hid c3
  replace hP := Lib.hid hP
  replace hQ := Lib.hid hQ
  replace hg := Lib.hid hg
  clear hG
  go_enter Tryd.func39, Tryd.ntmps39
  go_wp2_with fail
  refine (c1.out _).mono ?_
  rintro e w1 ⟨rfl, rfl⟩
  go_wp2_with fail
  refine (c2.out _).mono ?_
  rintro e w1 ⟨rfl, rfl⟩
  go_wp2_with fail
  refine (c3.out _).mono ?_
  rintro e w1 ⟨rfl, rfl⟩
  go_wp2_with fail
  go_region
  rw [hP.out, hQ.out]
  have hA := below_alloc2 w (.cells #[.int .i64 0, .int .i64 0] 24) (.cells #[.int .i64 P, .int .i64 Q] 24)
  have hx := (Box.new w 24 #[.int .i64 0, .int .i64 0]).kept (below_alloc1 _ (.cells #[.int .i64 P, .int .i64 Q] 24))
  have hy := Box.new (w.alloc (.cells #[.int .i64 0, .int .i64 0] 24)) 24 #[.int .i64 P, .int .i64 Q]
  rw [show (w.alloc (.cells #[.int .i64 0, .int .i64 0] 24)).heap.size = w.heap.size + 1 from by simp] at hy
  go_wp2_with fail
  refine (frGood_yes P Q _ hg.out).mono ?_
  rintro e w1 ⟨rfl, hb0⟩
  have hb : Below _ ((w.alloc (.cells #[.int .i64 0, .int .i64 0] 24)).alloc (.cells #[.int .i64 P, .int .i64 Q] 24)) w1 := ⟨hb0.os, hb0.tape, hb0.output, hb0.size, hb0.block⟩
  replace hx := hx.kept hb
  replace hy := hy.kept hb
  replace hA := Below.step hA hb
  clear hb hb0
  obtain ⟨kx0, kx1⟩ := hx.two
  obtain ⟨ky0, ky1⟩ := hy.two
  have fx0 := hx.free 0
  have fx1 := hx.free 1
  go_wp2_with fail
  refine bodyPost_ret (v := .tuple #[.agg #[.int .i64 P, .int .i64 Q], .bool true]) (by simp [results, Tryd.results39, go_sem, kx0, kx1]) rfl ⟨rfl, ?_⟩
  exact (hA.setCell (by first | (simp; done) | (simp; omega)) _).setCell (by first | (simp; done) | (simp; omega)) _

set_option maxHeartbeats 1000000 in
theorem lowS_no_neg (n d P Q : Int) (G : Nat) (w : World) (hn0 : -4000000000000000000 ≤ n) (hn1 : n ≤ 4000000000000000000) (hd0 : d < 0) (hd1 : -4000000000000000000 ≤ d)
    (hG : Nat.gcd n.natAbs d.natAbs = G) (hG0 : 0 < G) (hP : wrap64 (-(n.tdiv (G : Int))) = P) (hQ : wrap64 (-(d.tdiv (G : Int))) = Q) (hg : ¬ FrG P Q) :
    Calls Tryd.prog 39 #[.int .i64 n, .int .i64 d] w (GivesFB w 0 0 false) := by
  have c1 := fun W => l1Abs_any n W (by omega) (by omega)
  have c2 := fun W => l1Abs_any d W (by omega) (by omega)
  have c3 := fun W => bgCommon_any n.natAbs d.natAbs W (by omega) (by omega)
  rw [hG] at c3
  have e0 : (d == 0) = false := beq_eq_false_iff_ne.2 (by omega)
  replace c1 := Lib.hid c1
  replace c2 := Lib.hid c2
  have e1 : (-(G : Int) == 0) = false := beq_eq_false_iff_ne.2 (by omega)
  have e2 : ((G : Int) == 0) = false := beq_eq_false_iff_ne.2 (by omega)
  have hGb : (G : Int) ≤ 4000000000000000000 := by have := Nat.le_of_dvd (by omega) (hG ▸ Nat.gcd_dvd_right n.natAbs d.natAbs); omega
  replace c3 := Lib.hid c3
  replace hP := Lib.hid hP
  replace hQ := Lib.hid hQ
  replace hg := Lib.hid hg
  clear hG
  go_enter Tryd.func39, Tryd.ntmps39
  go_wp2_with fail
  refine (c1.out _).mono ?_
  rintro e w1 ⟨rfl, rfl⟩
  go_wp2_with fail
  refine (c2.out _).mono ?_
  rintro e w1 ⟨rfl, rfl⟩
  go_wp2_with fail
  refine (c3.out _).mono ?_
  rintro e w1 ⟨rfl, rfl⟩
  go_wp2_with fail
  go_region
  rw [hP.out, hQ.out]
  have hA := below_alloc2 w (.cells #[.int .i64 0, .int .i64 0] 24) (.cells #[.int .i64 P, .int .i64 Q] 24)
  have hx := (Box.new w 24 #[.int .i64 0, .int .i64 0]).kept (below_alloc1 _ (.cells #[.int .i64 P, .int .i64 Q] 24))
  have hy := Box.new (w.alloc (.cells #[.int .i64 0, .int .i64 0] 24)) 24 #[.int .i64 P, .int .i64 Q]
  rw [show (w.alloc (.cells #[.int .i64 0, .int .i64 0] 24)).heap.size = w.heap.size + 1 from by simp] at hy
  go_wp2_with fail
  refine (frGood_no P Q _ hg.out).mono ?_
  rintro e w1 ⟨rfl, hb0⟩
  have hb : Below _ ((w.alloc (.cells #[.int .i64 0, .int .i64 0] 24)).alloc (.cells #[.int .i64 P, .int .i64 Q] 24)) w1 := ⟨hb0.os, hb0.tape, hb0.output, hb0.size, hb0.block⟩
  replace hx := hx.kept hb
  replace hy := hy.kept hb
  replace hA := Below.step hA hb
  clear hb hb0
  obtain ⟨kx0, kx1⟩ := hx.two
  obtain ⟨ky0, ky1⟩ := hy.two
  have fx0 := hx.free 0
  have fx1 := hx.free 1
  go_wp2_with fail
  refine bodyPost_ret (v := .tuple #[.agg #[.int .i64 0, .int .i64 0], .bool false]) (by simp [results, Tryd.results39, go_sem, kx0, kx1]) rfl ⟨rfl, ?_⟩
  exact (hA.setCell (by first | (simp; done) | (simp; omega)) _).setCell (by first | (simp; done) | (simp; omega)) _
end Go.Proofs.YtchglkcfolannabDoor
