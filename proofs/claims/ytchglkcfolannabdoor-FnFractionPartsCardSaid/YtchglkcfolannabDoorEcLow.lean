/- A quotient in lowest terms: the model's ecPart, the program's withoutCommonDivisor (written by wip/gen/eclow.py). -/
import Derived.Test.YtchglkcfolannabDoorEcAbs
import Derived.Test.YtchglkcfolannabDoorCiGcd
namespace Go.Proofs.YtchglkcfolannabDoor
open Go.RowKit Go.Joins

set_option maxHeartbeats 1000000 in
theorem lowI_pos (n d P Q : Int) (G : Nat) (w : World) (hn0 : -4000000000000000000 ≤ n) (hn1 : n ≤ 4000000000000000000) (hd0 : 0 < d) (hd1 : d ≤ 4000000000000000000) (hG : Nat.gcd n.natAbs d.natAbs = G) (hG0 : 0 < G) (hP : n.tdiv (G : Int) = P) (hQ : d / (G : Int) = Q) : Calls Tryd.prog 65 #[.int .i64 n, .int .i64 d] w (GivesII w P Q) := by
  have c3 := fun W => commonDivisor_any n.natAbs d.natAbs W (by omega) (by omega)
  rw [hG] at c3
  have e1 : ((G : Int) == 0) = false := beq_eq_false_iff_ne.2 (by omega)
  have hGb : (G : Int) ≤ 4000000000000000000 := by have := Nat.le_of_dvd (by omega) (hG ▸ Nat.gcd_dvd_right n.natAbs d.natAbs); omega
  have hm1 : ¬ d < 0 := by omega
  replace c3 := Lib.hid c3
  replace hP := Lib.hid hP
  replace hQ := Lib.hid hQ
  clear hG
  have h := Below.refl w.heap.size w
  go_enter Tryd.func65, Tryd.ntmps65
  go_wp2_with fail
  refine (c3.out _).mono ?_
  rintro e w1 ⟨rfl, hb⟩
  replace h := Below.step h hb
  clear hb
  go_wp2_with fail
  go_region
  rw [hP.out, hQ.out]
  go_wp2_with fail
  go_ret2
  exact ⟨rfl, by first | exact h | exact Below.drewN' h 1 | exact Below.drewN' h _⟩


set_option maxHeartbeats 1000000 in
theorem lowI_neg (n d P Q : Int) (G : Nat) (w : World) (hn0 : -4000000000000000000 ≤ n) (hn1 : n ≤ 4000000000000000000) (hd0 : d < 0) (hd1 : -4000000000000000000 ≤ d) (hG : Nat.gcd n.natAbs d.natAbs = G) (hG0 : 0 < G) (hP : -n.tdiv (G : Int) = P) (hQ : -d.tdiv (G : Int) = Q) : Calls Tryd.prog 65 #[.int .i64 n, .int .i64 d] w (GivesII w P Q) := by
  have c3 := fun W => commonDivisor_any n.natAbs d.natAbs W (by omega) (by omega)
  rw [hG] at c3
  have e1 : ((G : Int) == 0) = false := beq_eq_false_iff_ne.2 (by omega)
  have e2 : (-(G : Int) == 0) = false := beq_eq_false_iff_ne.2 (by omega)
  have hGb : (G : Int) ≤ 4000000000000000000 := by have := Nat.le_of_dvd (by omega) (hG ▸ Nat.gcd_dvd_right n.natAbs d.natAbs); omega
  have t1 := tdiv_bd (d := (G : Int)) hn0 hn1
  have t2 := tdiv_bd (d := (G : Int)) hd1 (show d ≤ 4000000000000000000 by omega)
  replace c3 := Lib.hid c3
  replace hP := Lib.hid hP
  replace hQ := Lib.hid hQ
  clear hG
  have h := Below.refl w.heap.size w
  go_enter Tryd.func65, Tryd.ntmps65
  go_wp2_with fail
  refine (c3.out _).mono ?_
  rintro e w1 ⟨rfl, hb⟩
  replace h := Below.step h hb
  clear hb
  go_wp2_with fail
  go_region
  rw [hP.out, hQ.out]
  go_wp2_with fail
  go_ret2
  exact ⟨rfl, by first | exact h | exact Below.drewN' h 1 | exact Below.drewN' h _⟩


theorem lowI_any (n d : Int) (w : World) (hn : -4000000000000000000 ≤ n ∧ n ≤ 4000000000000000000) (hd : -4000000000000000000 ≤ d ∧ d ≤ 4000000000000000000) (h0 : d ≠ 0) : Calls Tryd.prog 65 #[.int .i64 n, .int .i64 d] w (GivesII w (lowP n d) (lowQ n d)) := by
  have hg := gcd_pos_right (n := n) h0
  by_cases hs : d < 0
  · have e : lowS n d = -((Nat.gcd n.natAbs d.natAbs : Nat) : Int) := by unfold lowS; rw [if_pos hs]
    exact lowI_neg n d _ _ _ w hn.1 hn.2 hs hd.1 rfl hg (by rw [← Int.tdiv_neg, ← e]; exact lowP_tdiv) (by rw [← Int.tdiv_neg, ← e]; exact lowQ_tdiv)
  · have e : lowS n d = ((Nat.gcd n.natAbs d.natAbs : Nat) : Int) := by unfold lowS; rw [if_neg hs]
    exact lowI_pos n d _ _ _ w hn.1 hn.2 (by omega) hd.2 rfl hg (by rw [← e]; exact lowP_tdiv) (by rw [← e]; rfl)
end Go.Proofs.YtchglkcfolannabDoor
