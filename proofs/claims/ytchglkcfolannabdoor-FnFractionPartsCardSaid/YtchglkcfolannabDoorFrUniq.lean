/- Lowest terms are unique; sums and products turn back (plain arithmetic; own work). -/
import Derived.Test.YtchglkcfolannabDoorFrMath
namespace Go.Proofs.YtchglkcfolannabDoor

theorem low_unique {n d p q : Int} (g : FrG p q) (hd : d ≠ 0) (e : n * q = p * d) : lowP n d = p ∧ lowQ n d = q ∧ lowB n d = true := by
  obtain ⟨P, hP⟩ : ∃ P, P = lowP n d := ⟨_, rfl⟩
  obtain ⟨Q, hQ⟩ : ∃ Q, Q = lowQ n d := ⟨_, rfl⟩
  have h1 : P * lowS n d = n := by rw [hP]; exact lowP_mul
  have h2 : Q * lowS n d = d := by rw [hQ]; exact lowQ_mul
  have hs := lowS_ne (n := n) hd
  have hQ0 : 0 < Q := by rw [hQ]; exact lowQ_pos hd
  have hc : Nat.gcd P.natAbs Q.natAbs = 1 := by rw [hP, hQ]; exact low_coprime hd
  have e2 : P * q = p * Q := by
    have h3 : (P * q) * lowS n d = (p * Q) * lowS n d := by
      rw [Int.mul_right_comm, h1, Int.mul_assoc, h2]; exact e
    exact Int.eq_of_mul_eq_mul_right hs h3
  have e3 : P.natAbs * q.natAbs = p.natAbs * Q.natAbs := by rw [← Int.natAbs_mul, ← Int.natAbs_mul, e2]
  have d1 : Q.natAbs ∣ q.natAbs := Nat.Coprime.dvd_of_dvd_mul_left (Nat.Coprime.symm hc) ⟨p.natAbs, by rw [e3, Nat.mul_comm]⟩
  have d2 : q.natAbs ∣ Q.natAbs := Nat.Coprime.dvd_of_dvd_mul_left (Nat.Coprime.symm g.2.2.2.2) ⟨P.natAbs, by rw [← e3, Nat.mul_comm]⟩
  have hq : Q = q := by
    have := Nat.dvd_antisymm d1 d2
    have := g.1
    omega
  have hp : P = p := by
    rw [hq] at e2
    exact Int.eq_of_mul_eq_mul_right (by have := g.1; omega) e2
  rw [hP] at hp
  rw [hQ] at hq
  refine ⟨hp, hq, ?_⟩
  unfold lowB
  rw [hp, hq]
  exact decide_eq_true ⟨hd, g.2.1, g.2.2.1, g.2.2.2.1⟩

theorem low_cross {n d : Int} : lowP n d * d = n * lowQ n d := by
  have h1 := lowP_mul (n := n) (d := d)
  have h2 := lowQ_mul (n := n) (d := d)
  calc lowP n d * d = lowP n d * (lowQ n d * lowS n d) := by rw [h2]
    _ = lowP n d * lowS n d * lowQ n d := by rw [Int.mul_comm (lowQ n d), Int.mul_assoc]
    _ = n * lowQ n d := by rw [h1]

/-- The sum less b is a. -/
theorem sum_back {p0 q0 p1 q1 : Int} (g0 : FrG p0 q0) (g1 : FrG p1 q1) (h : lowB (p0 * q1 + p1 * q0) (q0 * q1) = true) :
    let P := lowP (p0 * q1 + p1 * q0) (q0 * q1)
    let Q := lowQ (p0 * q1 + p1 * q0) (q0 * q1)
    lowP (P * q1 - p1 * Q) (Q * q1) = p0 ∧ lowQ (P * q1 - p1 * Q) (Q * q1) = q0 ∧ lowB (P * q1 - p1 * Q) (Q * q1) = true := by
  intro P Q
  have hQ : 0 < Q := lowQ_pos (lowB_good h).1
  have hx : P * (q0 * q1) = (p0 * q1 + p1 * q0) * Q := low_cross
  refine low_unique g0 (Int.ne_of_gt (Int.mul_pos hQ (by have := g1.1; omega))) ?_
  have e1 : (P * q1 - p1 * Q) * q0 = P * (q0 * q1) - p1 * q0 * Q := by
    rw [Int.sub_mul, Int.mul_assoc, Int.mul_comm q1 q0, Int.mul_assoc p1 Q q0, Int.mul_comm Q q0, Int.mul_assoc p1 q0 Q]
  rw [e1, hx, Int.add_mul, Int.mul_assoc p0 q1 Q, Int.mul_comm q1 Q]
  omega

/-- The quotient times b is a. -/
theorem quot_back {p0 q0 p1 q1 : Int} (g0 : FrG p0 q0) (g1 : FrG p1 q1) (h : lowB (p0 * q1) (q0 * p1) = true) :
    let P := lowP (p0 * q1) (q0 * p1)
    let Q := lowQ (p0 * q1) (q0 * p1)
    lowP (P * p1) (Q * q1) = p0 ∧ lowQ (P * p1) (Q * q1) = q0 ∧ lowB (P * p1) (Q * q1) = true := by
  intro P Q
  have hQ : 0 < Q := lowQ_pos (lowB_good h).1
  have hx : P * (q0 * p1) = (p0 * q1) * Q := low_cross
  refine low_unique g0 (Int.ne_of_gt (Int.mul_pos hQ (by have := g1.1; omega))) ?_
  rw [Int.mul_assoc, Int.mul_comm p1 q0, hx, Int.mul_assoc, Int.mul_comm q1 Q]

/-- The sign of the difference. -/
theorem diff_sign {n d : Int} (hd : 0 < d) : lowP n d < 0 ↔ n < 0 := by
  have h1 := lowP_mul (n := n) (d := d)
  have hs : 0 < lowS n d := by
    have := gcd_pos_right (n := n) (d := d) (by omega)
    unfold lowS
    rw [if_neg (by omega)]
    omega
  constructor
  · intro h
    have := Int.mul_neg_of_neg_of_pos h hs
    omega
  · intro h
    apply Int.lt_of_not_ge; intro h2
    have := Int.mul_nonneg h2 (Int.le_of_lt hs)
    omega

theorem low_abs_p {n d : Int} : ((lowP n d).natAbs : Int) * ((Nat.gcd n.natAbs d.natAbs : Nat) : Int) = (n.natAbs : Int) := by
  rw [← lowS_natAbs, ← Int.natCast_mul, ← Int.natAbs_mul, lowP_mul]
theorem low_abs_q {n d : Int} : ((lowQ n d).natAbs : Int) * ((Nat.gcd n.natAbs d.natAbs : Nat) : Int) = (d.natAbs : Int) := by
  rw [← lowS_natAbs, ← Int.natCast_mul, ← Int.natAbs_mul, lowQ_mul]
end Go.Proofs.YtchglkcfolannabDoor
