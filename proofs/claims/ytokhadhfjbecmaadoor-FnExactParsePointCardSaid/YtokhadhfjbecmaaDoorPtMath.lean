/- Mathematics of chapter 6: points, lines through two of them, the third point (own work). -/
import Derived.Test.YtokhadhfjbecmaaDoorEcMath
import Derived.Test.YtokhadhfjbecmaaDoorFrUniq
namespace Go.Proofs.YtokhadhfjbecmaaDoor

/-- A point as three numbers. -/
structure P3 where
  x : Int
  y : Int
  e : Int
deriving DecidableEq
def P3.neg (p : P3) : P3 := ⟨p.x, -p.y, p.e⟩
def P3.zero : P3 := ⟨0, 0, 0⟩
/-- X^3 + A X E^4 + B E^6. -/
def ptV (a b x e : Int) : Int := x * x * x + a * x * (e * e) * (e * e) + b * (e * e) * (e * e) * (e * e)
/-- A point that is not infinity. -/
structure Fin3 (a b : Int) (p : P3) : Prop where
  x : -10000 ≤ p.x ∧ p.x ≤ 10000
  e : 1 ≤ p.e ∧ p.e ≤ 20
  y : -1800000 ≤ p.y ∧ p.y ≤ 1800000
  c : Nat.gcd p.x.natAbs p.e.natAbs = 1
  v : p.y * p.y = ptV a b p.x p.e
def PtOn (a b : Int) (p : P3) : Prop := p = .zero ∨ Fin3 a b p

theorem mul_bd0 {a b M N : Int} (h1 : 0 ≤ a) (h2 : a ≤ M) (h3 : 0 ≤ b) (h4 : b ≤ N) : 0 ≤ a * b ∧ a * b ≤ M * N :=
  ⟨Int.mul_nonneg h1 h3, Int.mul_le_mul h2 h4 h3 (by omega)⟩
theorem mul_bd1 {a b M N : Int} (h1 : 1 ≤ a) (h2 : a ≤ M) (h3 : 1 ≤ b) (h4 : b ≤ N) : 1 ≤ a * b ∧ a * b ≤ M * N :=
  ⟨by have := Int.mul_pos (show 0 < a by omega) (show 0 < b by omega); omega, Int.mul_le_mul h2 h4 (by omega) (by omega)⟩
theorem ptE_bd {e : Int} (h : 1 ≤ e ∧ e ≤ 20) : (1 ≤ e * e ∧ e * e ≤ 400) ∧ (1 ≤ e * e * (e * e) ∧ e * e * (e * e) ≤ 160000) ∧ (1 ≤ e * e * (e * e) * (e * e) ∧ e * e * (e * e) * (e * e) ≤ 64000000) ∧ (1 ≤ e * e * e ∧ e * e * e ≤ 8000) := by
  have k1 := mul_bd1 h.1 h.2 h.1 h.2
  have k2 := mul_bd1 k1.1 k1.2 k1.1 k1.2
  have k3 := mul_bd1 k2.1 k2.2 k1.1 k1.2
  have k4 := mul_bd1 k1.1 k1.2 h.1 h.2
  omega
theorem ptV_bd {a b x e : Int} (ha : -1000 ≤ a ∧ a ≤ 1000) (hb : -10000 ≤ b ∧ b ≤ 10000) (hx : -10000 ≤ x ∧ x ≤ 10000) (he : 1 ≤ e ∧ e ≤ 20) :
    (0 ≤ x * x ∧ x * x ≤ 100000000) ∧ (-1000000000000 ≤ x * x * x ∧ x * x * x ≤ 1000000000000) ∧ (-10000000 ≤ a * x ∧ a * x ≤ 10000000) ∧ (-4000000000 ≤ a * x * (e * e) ∧ a * x * (e * e) ≤ 4000000000) ∧ (-1600000000000 ≤ a * x * (e * e) * (e * e) ∧ a * x * (e * e) * (e * e) ≤ 1600000000000) ∧ (-4000000 ≤ b * (e * e) ∧ b * (e * e) ≤ 4000000) ∧ (-1600000000 ≤ b * (e * e) * (e * e) ∧ b * (e * e) * (e * e) ≤ 1600000000) ∧ (-640000000000 ≤ b * (e * e) * (e * e) * (e * e) ∧ b * (e * e) * (e * e) * (e * e) ≤ 640000000000) := by
  have k0 : 0 ≤ x * x := sq_nn x
  have k1 := fr_mul_bd hx.1 hx.2 hx.1 hx.2
  have k2 := fr_mul_bd (a := x * x) (b := x) (M := 100000000) (N := 10000) (by omega) (by omega) hx.1 hx.2
  have k3 := fr_mul_bd ha.1 ha.2 hx.1 hx.2
  have ke := (ptE_bd he).1
  have e1 : -400 ≤ e * e := by omega
  have k4 := fr_mul_bd (a := a * x) (b := e * e) (M := 10000000) (N := 400) (by omega) (by omega) e1 ke.2
  have k5 := fr_mul_bd (a := a * x * (e * e)) (b := e * e) (M := 4000000000) (N := 400) (by omega) (by omega) e1 ke.2
  have k6 := fr_mul_bd hb.1 hb.2 e1 ke.2
  have k7 := fr_mul_bd (a := b * (e * e)) (b := e * e) (M := 4000000) (N := 400) (by omega) (by omega) e1 ke.2
  have k8 := fr_mul_bd (a := b * (e * e) * (e * e)) (b := e * e) (M := 1600000000) (N := 400) (by omega) (by omega) e1 ke.2
  omega
theorem ptV_le {a b x e : Int} (ha : -1000 ≤ a ∧ a ≤ 1000) (hb : -10000 ≤ b ∧ b ≤ 10000) (hx : -10000 ≤ x ∧ x ≤ 10000) (he : 1 ≤ e ∧ e ≤ 20) : -3240000000000 ≤ ptV a b x e ∧ ptV a b x e ≤ 3240000000000 := by
  have := ptV_bd ha hb hx he
  unfold ptV; omega
theorem y_bd {y v : Int} (h : y * y = v) (hv : v ≤ 3240000000000) : -1800000 ≤ y ∧ y ≤ 1800000 := by
  constructor
  · apply Int.not_lt.1; intro k
    have := Int.mul_le_mul (a := 1800001) (b := 1800001) (c := -y) (d := -y) (by omega) (by omega) (by omega) (by omega)
    rw [Int.neg_mul_neg] at this; omega
  · apply Int.not_lt.1; intro k
    have := Int.mul_le_mul (a := 1800001) (b := 1800001) (c := y) (d := y) (by omega) (by omega) (by omega) (by omega)
    omega
theorem ptV_form {a b x e P Q : Int} (hP : e * e * (e * e) = P) (hQ : e * e * (e * e) * (e * e) = Q) : ecV (a * P) (b * Q) x = ptV a b x e := by
  subst hP hQ; unfold ecV ptV; grobner
theorem Fin3.neg {a b : Int} {p : P3} (h : Fin3 a b p) : Fin3 a b p.neg :=
  ⟨h.x, h.e, by have := h.y; show -1800000 ≤ -p.y ∧ -p.y ≤ 1800000; omega, h.c, by show -p.y * -p.y = _; rw [Int.neg_mul_neg]; exact h.v⟩
theorem PtOn.neg {a b : Int} {p : P3} (h : PtOn a b p) : PtOn a b p.neg := by
  rcases h with rfl | h
  · exact .inl rfl
  · exact .inr h.neg
theorem PtOn.fin {a b : Int} {p : P3} (h : PtOn a b p) (he : p.e ≠ 0) : Fin3 a b p := by
  rcases h with rfl | h
  · exact absurd rfl he
  · exact h
theorem PtOn.inf {a b : Int} {p : P3} (h : PtOn a b p) (he : p.e = 0) : p = .zero := by
  rcases h with rfl | h
  · rfl
  · have := h.e; omega
theorem PtOn.bd {a b : Int} {p : P3} (h : PtOn a b p) : (-10000 ≤ p.x ∧ p.x ≤ 10000) ∧ (0 ≤ p.e ∧ p.e ≤ 20) ∧ (-1800000 ≤ p.y ∧ p.y ≤ 1800000) := by
  rcases h with rfl | h
  · exact ⟨by decide, by decide, by decide⟩
  · have := h.x; have := h.e; have := h.y; omega

theorem cop_sq {a b : Nat} (h : Nat.gcd a b = 1) : Nat.gcd a (b * b) = 1 := Nat.Coprime.mul_right (k := a) (m := b) (n := b) h h
theorem sq_inj {a b : Nat} (h : a * a = b * b) : a = b := by
  have go : ∀ {a b : Nat}, a * a = b * b → ¬ a < b := by
    intro a b h k
    have := Nat.mul_lt_mul'' k k
    omega
  have := go h; have := go h.symm; omega
/-- In lowest terms, x tells X and E. -/
theorem same_x {x1 e1 x2 e2 : Int} (p1 : 1 ≤ e1) (p2 : 1 ≤ e2) (c1 : Nat.gcd x1.natAbs e1.natAbs = 1) (c2 : Nat.gcd x2.natAbs e2.natAbs = 1) (h : x1 * (e2 * e2) = x2 * (e1 * e1)) : x1 = x2 ∧ e1 = e2 := by
  have e3 : x1.natAbs * (e2.natAbs * e2.natAbs) = x2.natAbs * (e1.natAbs * e1.natAbs) := by rw [← Int.natAbs_mul, ← Int.natAbs_mul, ← Int.natAbs_mul, ← Int.natAbs_mul, h]
  have d1 : e1.natAbs * e1.natAbs ∣ e2.natAbs * e2.natAbs := Nat.Coprime.dvd_of_dvd_mul_left (Nat.Coprime.symm (cop_sq c1)) ⟨x2.natAbs, by rw [e3, Nat.mul_comm]⟩
  have d2 : e2.natAbs * e2.natAbs ∣ e1.natAbs * e1.natAbs := Nat.Coprime.dvd_of_dvd_mul_left (Nat.Coprime.symm (cop_sq c2)) ⟨x1.natAbs, by rw [← e3, Nat.mul_comm]⟩
  have he : e1 = e2 := by have := sq_inj (Nat.dvd_antisymm d1 d2); omega
  subst he
  exact ⟨Int.eq_of_mul_eq_mul_right (show e1 * e1 ≠ 0 from Int.ne_of_gt (Int.mul_pos (by omega) (by omega))) h, rfl⟩

/-- The slope: numerator and denominator before lowest terms. -/
def slU (a : Int) (p q : P3) : Int := if p = q then 3 * p.x * p.x + a * p.e * p.e * p.e * p.e else q.y * p.e * p.e * p.e - p.y * q.e * q.e * q.e
def slF (p q : P3) : Int := if p = q then 2 * p.y * p.e else p.e * q.e * (q.x * p.e * p.e - p.x * q.e * q.e)
theorem sl_zero {a b : Int} {p q : P3} (gp : Fin3 a b p) (gq : Fin3 a b q) : slF p q = 0 ↔ q = p.neg := by
  have hp := gp.e.1
  have hq := gq.e.1
  unfold slF
  by_cases h : p = q
  · subst h
    rw [if_pos rfl]
    constructor
    · intro k
      have : 2 * p.y = 0 := by rcases Int.mul_eq_zero.1 k with k | k <;> omega
      cases p; simp only [P3.neg, P3.mk.injEq, true_and, and_true] at *; omega
    · intro k
      have : p.y = -p.y := by rw [k] at *; exact congrArg P3.y k
      have : p.y = 0 := by omega
      rw [this]; simp
  · rw [if_neg h]
    constructor
    · intro k
      have k1 : q.x * p.e * p.e - p.x * q.e * q.e = 0 := by
        rcases Int.mul_eq_zero.1 k with k | k
        · rcases Int.mul_eq_zero.1 k with k | k <;> omega
        · exact k
      have k2 : p.x * (q.e * q.e) = q.x * (p.e * p.e) := by grobner
      obtain ⟨ex, ee⟩ := same_x hp hq gp.c gq.c k2
      have ey : (p.y - q.y) * (p.y + q.y) = 0 := by
        have h1 := gp.v; have h2 := gq.v
        rw [← ex, ← ee] at h2
        grobner
      cases p; cases q
      simp only [P3.neg, P3.mk.injEq] at *
      refine ⟨ex.symm, ?_, ee.symm⟩
      rcases Int.mul_eq_zero.1 ey with k | k
      · exact absurd ⟨ex, by omega, ee⟩ h
      · omega
    · intro k
      subst k
      show p.e * p.e * (p.x * p.e * p.e - p.x * p.e * p.e) = 0
      rw [Int.sub_self, Int.mul_zero]

theorem lc1 {t1 t2 a b : Int} (k : Int) (h : a = b) (e : t1 - t2 = k * (a - b)) : t1 = t2 := by
  rw [h, Int.sub_self, Int.mul_zero] at e; omega
theorem lc3 {t a1 b1 a2 b2 a3 b3 : Int} (h1 : a1 = b1) (h2 : a2 = b2) (h3 : a3 = b3) (e : t = (a1 - b1) + (a2 - b2) + (a3 - b3)) : t = 0 := by omega
theorem pid1 (n pe qe px qx : Int) : n * (pe * qe) * (qx * (pe * pe) - px * (qe * qe)) = n * (pe * qe * (qx * pe * pe - px * qe * qe)) := by grind
theorem pid2 (d x pe qe : Int) : d * d * (x * (pe * qe * (pe * qe))) = x * (d * d * (pe * pe) * (qe * qe)) := by grind
theorem pid3 (Q F : Int) : Q * Q * (F * F) = Q * F * (Q * F) := by grind
/-- The third point of a line, all coordinates being integers. -/
theorem line_id {X1 Y1 X2 Y2 X3 A B m d : Int} (h1 : m * (Y1 + Y2) = d * (X2 * X2 + X1 * X2 + X1 * X1 + A)) (h2 : d * (Y2 - Y1) = m * (X2 - X1)) (h3 : d * d * (X1 + X2 + X3) = m * m) (h4 : Y1 * Y1 = X1 * X1 * X1 + A * X1 + B) :
    (m * (X1 - X3) - d * Y1) * (m * (X1 - X3) - d * Y1) = d * d * (X3 * X3 * X3 + A * X3 + B) := by
  have e1 : d * d * A = d * m * (Y1 + Y2) - d * d * (X2 * X2 + X1 * X2 + X1 * X1) := lc1 (-d) h1 (by clear h1 h2 h3 h4; grobner)
  have e2 : m * d * (Y2 - Y1) = m * m * (X2 - X1) := lc1 m h2 (by clear h1 h2 h3 h4 e1; grobner)
  have e3 : d * d * (X1 + X2 + X3) * (X3 - X2) = m * m * (X3 - X2) := by rw [h3]
  have e4 : d * d * B = d * d * (Y1 * Y1) - d * d * (X1 * X1 * X1) - d * d * A * X1 := by rw [h4]; grobner
  have e5 : d * d * (X3 * X3 + X1 * X3 + X1 * X1) + d * d * A - m * m * (X3 - X1) - 2 * (d * m) * Y1 = 0 := lc3 e1 e2 e3 (by clear h1 h2 h3 h4 e1 e2 e3 e4; grobner)
  have e6 : (m * (X1 - X3) - d * Y1) * (m * (X1 - X3) - d * Y1) = m * m * (X3 - X1) * (X3 - X1) + 2 * (d * m) * Y1 * (X3 - X1) + d * d * (Y1 * Y1) := by grobner
  have e7 : d * d * (X3 * X3 * X3 + A * X3 + B) = d * d * (X3 * X3 * X3) + d * d * A * X3 + d * d * B := by grobner
  rw [e6, e7, e4]
  have e8 : (X3 - X1) * (d * d * (X3 * X3 + X1 * X3 + X1 * X1) + d * d * A - m * m * (X3 - X1) - 2 * (d * m) * Y1) = 0 := by rw [e5, Int.mul_zero]
  exact lc1 (-1) e8 (by clear h1 h2 h3 h4 e1 e2 e3 e4 e5 e6 e7 e8; grobner)

/-- Both points and the slope at one scale. -/
theorem chord {a b n d : Int} {p q : P3} (gp : Fin3 a b p) (gq : Fin3 a b q) (hF : slF p q ≠ 0) (hs : n * slF p q = slU a p q * d) :
    let x1 := p.x * (q.e * q.e); let y1 := p.y * (q.e * q.e * q.e); let x2 := q.x * (p.e * p.e); let y2 := q.y * (p.e * p.e * p.e)
    let G := p.e * q.e
    n * G * (y1 + y2) = d * (x2 * x2 + x1 * x2 + x1 * x1 + a * (G * G * G * G)) ∧ d * (y2 - y1) = n * G * (x2 - x1) ∧ y1 * y1 = x1 * x1 * x1 + a * (G * G * G * G) * x1 + b * (G * G * G * G * G * G) := by
  have h1 := gp.v
  have h2 := gq.v
  unfold ptV at h1 h2
  unfold slF at hF hs
  unfold slU at hs
  intro x1 y1 x2 y2 G
  have ex1 : x1 = p.x * (q.e * q.e) := rfl
  have ey1 : y1 = p.y * (q.e * q.e * q.e) := rfl
  have ex2 : x2 = q.x * (p.e * p.e) := rfl
  have ey2 : y2 = q.y * (p.e * p.e * p.e) := rfl
  have eG : G = p.e * q.e := rfl
  clear_value x1 y1 x2 y2 G
  have f1 : y1 * y1 = x1 * x1 * x1 + a * (G * G * G * G) * x1 + b * (G * G * G * G * G * G) := by
    rw [ey1, ex1, eG]
    have : p.y * (q.e * q.e * q.e) * (p.y * (q.e * q.e * q.e)) = p.y * p.y * (q.e * q.e * q.e * (q.e * q.e * q.e)) := by grobner
    rw [this, h1]; grobner
  have f2 : y2 * y2 = x2 * x2 * x2 + a * (G * G * G * G) * x2 + b * (G * G * G * G * G * G) := by
    rw [ey2, ex2, eG]
    have : q.y * (p.e * p.e * p.e) * (q.y * (p.e * p.e * p.e)) = q.y * q.y * (p.e * p.e * p.e * (p.e * p.e * p.e)) := by grobner
    rw [this, h2]; grobner
  by_cases h : p = q
  · rw [if_pos h] at hF hs
    rw [if_pos h] at hs
    subst h
    refine ⟨?_, ?_, f1⟩
    · have : n * G * (y1 + y2) = n * (2 * p.y * p.e) * (p.e * p.e * p.e * p.e) := by rw [ey1, ey2, eG]; grobner
      rw [this, hs, ex1, ex2, eG]; grobner
    · rw [ey1, ey2, ex1, ex2]; grobner
  · rw [if_neg h] at hF hs
    rw [if_neg h] at hs
    have g1 : n * G * (x2 - x1) = (y2 - y1) * d := by
      rw [ex1, ex2, ey1, ey2, eG]
      have : n * (p.e * q.e) * (q.x * (p.e * p.e) - p.x * (q.e * q.e)) = n * (p.e * q.e * (q.x * p.e * p.e - p.x * q.e * q.e)) := pid1 n p.e q.e p.x q.x
      rw [this, hs]; grobner
    have hne : x2 - x1 ≠ 0 := by
      intro k
      apply hF
      have : q.x * p.e * p.e - p.x * q.e * q.e = x2 - x1 := by rw [ex1, ex2]; grobner
      rw [this, k, Int.mul_zero]
    refine ⟨?_, by rw [g1]; grobner, f1⟩
    apply Int.eq_of_mul_eq_mul_left hne
    have g2 : (x2 - x1) * (n * G * (y1 + y2)) = d * (y2 * y2 - y1 * y1) := by
      have : (x2 - x1) * (n * G * (y1 + y2)) = n * G * (x2 - x1) * (y1 + y2) := by grobner
      rw [this, g1]; grobner
    rw [g2, f1, f2]; grobner

theorem sq_dvd {a b v : Int} (ha : a ≠ 0) (h : b * b = a * a * v) : ∃ y, b = y * a ∧ y * y = v := by
  have h1 : a ^ 2 ∣ b ^ 2 := ⟨v, by rw [Int.pow_succ, Int.pow_succ, Int.pow_zero, Int.one_mul, Int.pow_succ, Int.pow_succ, Int.pow_zero, Int.one_mul]; exact h⟩
  obtain ⟨y, hy⟩ : a ∣ b := (Int.pow_dvd_pow_iff (by omega)).1 h1
  refine ⟨y, by rw [hy, Int.mul_comm], ?_⟩
  have : a * a * (y * y) = a * a * v := by rw [← h, hy]; grobner
  exact Int.eq_of_mul_eq_mul_left (show a * a ≠ 0 from fun k => by rcases Int.mul_eq_zero.1 k with k | k <;> exact ha k) this

/-- The third point, at the scale of its own. -/
theorem third_sq {a b n d x e : Int} {p q : P3} (gp : Fin3 a b p) (gq : Fin3 a b q) (hF : slF p q ≠ 0) (hs : n * slF p q = slU a p q * d) (hd : d ≠ 0)
    (h3 : x * (d * d * (p.e * p.e) * (q.e * q.e)) = (n * n * (p.e * p.e) * (q.e * q.e) - p.x * d * d * (q.e * q.e) - q.x * d * d * (p.e * p.e)) * (e * e)) :
    ∃ y, (n * p.e * (p.x * (e * e) - x * (p.e * p.e)) - p.y * d * (e * e)) * e = y * (d * (p.e * p.e) * p.e) ∧ y * y = ptV a b x e := by
  obtain ⟨c1, c2, c3⟩ := chord gp gq hF hs
  obtain ⟨x1, hx1⟩ : ∃ z, z = p.x * (q.e * q.e) := ⟨_, rfl⟩
  obtain ⟨y1, hy1⟩ : ∃ z, z = p.y * (q.e * q.e * q.e) := ⟨_, rfl⟩
  obtain ⟨x2, hx2⟩ : ∃ z, z = q.x * (p.e * p.e) := ⟨_, rfl⟩
  obtain ⟨y2, hy2⟩ : ∃ z, z = q.y * (p.e * p.e * p.e) := ⟨_, rfl⟩
  obtain ⟨G, hG⟩ : ∃ z, z = p.e * q.e := ⟨_, rfl⟩
  simp only [← hx1, ← hy1, ← hx2, ← hy2, ← hG] at c1 c2 c3
  have hp := gp.e.1
  have hq := gq.e.1
  have l := line_id (X1 := x1 * (e * e)) (Y1 := y1 * (e * e * e)) (X2 := x2 * (e * e)) (Y2 := y2 * (e * e * e)) (X3 := x * (G * G)) (A := a * (G * G * G * G) * (e * e * e * e)) (B := b * (G * G * G * G * G * G) * (e * e * e * e * e * e)) (m := n * G * e) (d := d)
    (by have : n * G * e * (y1 * (e * e * e) + y2 * (e * e * e)) = n * G * (y1 + y2) * (e * e * e * e) := by grobner
        rw [this, c1]; grobner)
    (by have : d * (y2 * (e * e * e) - y1 * (e * e * e)) = d * (y2 - y1) * (e * e * e) := by grobner
        rw [this, c2]; grobner)
    (by have t : d * d * (x * (G * G)) = x * (d * d * (p.e * p.e) * (q.e * q.e)) := by rw [hG]; exact pid2 d x p.e q.e
        have : d * d * (x1 * (e * e) + x2 * (e * e) + x * (G * G)) = d * d * (x1 * (e * e) + x2 * (e * e)) + d * d * (x * (G * G)) := by grobner
        rw [this, t, h3, hx1, hx2, hG]; grobner)
    (by have : y1 * (e * e * e) * (y1 * (e * e * e)) = y1 * y1 * (e * e * e * e * e * e) := by grobner
        rw [this, c3]; grobner)
  refine sq_dvd (show d * (p.e * p.e) * p.e ≠ 0 from ?_) ?_
  · exact Int.mul_ne_zero (Int.mul_ne_zero hd (Int.mul_ne_zero (by omega) (by omega))) (by omega)
  · have hk : q.e * q.e * q.e * (q.e * q.e * q.e) ≠ 0 := Int.mul_ne_zero (Int.mul_ne_zero (Int.mul_ne_zero (by omega) (by omega)) (by omega)) (Int.mul_ne_zero (Int.mul_ne_zero (by omega) (by omega)) (by omega))
    apply Int.eq_of_mul_eq_mul_left hk
    obtain ⟨F, hF'⟩ : ∃ F, F = n * p.e * (p.x * (e * e) - x * (p.e * p.e)) - p.y * d * (e * e) := ⟨_, rfl⟩
    have l1 : n * G * e * (x1 * (e * e) - x * (G * G)) - d * (y1 * (e * e * e)) = q.e * q.e * q.e * (F * e) := by rw [hF', hx1, hy1, hG]; grobner
    have l2 : d * d * (x * (G * G) * (x * (G * G)) * (x * (G * G)) + a * (G * G * G * G) * (e * e * e * e) * (x * (G * G)) + b * (G * G * G * G * G * G) * (e * e * e * e * e * e)) = q.e * q.e * q.e * (q.e * q.e * q.e) * (d * (p.e * p.e) * p.e * (d * (p.e * p.e) * p.e) * ptV a b x e) := by unfold ptV; rw [hG]; grobner
    rw [l1, l2] at l
    rw [← hF', ← l]; exact pid3 _ _
/-- What the model makes of y: two quotients in lowest terms. -/
theorem spec_y {n d x e xp yp ep y Y : Int} (hd : d ≠ 0) (hep : ep ≠ 0) (he : e ≠ 0)
    (hY : (n * ep * (xp * (e * e) - x * (ep * ep)) - yp * d * (e * e)) * e = Y * (d * (ep * ep) * ep))
    (up under bottom : Int) (h1 : up = lowP (n * (xp * e * e - x * (ep * ep))) (d * (ep * ep) * e * e)) (h2 : under = lowQ (n * (xp * e * e - x * (ep * ep))) (d * (ep * ep) * e * e))
    (h3 : y = lowP (up * (ep * ep) * ep - yp * under) (under * (ep * ep) * ep)) (h4 : bottom = lowQ (up * (ep * ep) * ep - yp * under) (under * (ep * ep) * ep)) :
    y * (e * e * e).tdiv bottom = Y ∧ 0 < bottom ∧ (bottom.natAbs : Int) ∣ e * e * e := by
  have hB1 : d * (ep * ep) * e * e ≠ 0 := Int.mul_ne_zero (Int.mul_ne_zero (Int.mul_ne_zero hd (Int.mul_ne_zero hep hep)) he) he
  have hu : 0 < under := by rw [h2]; exact lowQ_pos hB1
  have hB2 : under * (ep * ep) * ep ≠ 0 := Int.mul_ne_zero (Int.mul_ne_zero (by omega) (Int.mul_ne_zero hep hep)) hep
  have hb : 0 < bottom := by rw [h4]; exact lowQ_pos hB2
  have hc : Nat.gcd y.natAbs bottom.natAbs = 1 := by rw [h3, h4]; exact low_coprime hB2
  have x1 : up * (d * (ep * ep) * e * e) = n * (xp * e * e - x * (ep * ep)) * under := by rw [h1, h2]; exact low_cross
  have x2 : y * (under * (ep * ep) * ep) = (up * (ep * ep) * ep - yp * under) * bottom := by rw [h3, h4]; exact low_cross
  clear h1 h2 h3 h4
  have x3 : (up * (ep * ep) * ep - yp * under) * (e * e * e) = Y * (under * (ep * ep) * ep) := by
    apply Int.eq_of_mul_eq_mul_right hB1
    have t1 : (up * (ep * ep) * ep - yp * under) * (e * e * e) * (d * (ep * ep) * e * e) = (up * (d * (ep * ep) * e * e) * (ep * ep) * ep - yp * under * (d * (ep * ep) * e * e)) * (e * e * e) := by grobner
    rw [t1, x1]
    have t2 : (n * (xp * e * e - x * (ep * ep)) * under * (ep * ep) * ep - yp * under * (d * (ep * ep) * e * e)) * (e * e * e) = (n * ep * (xp * (e * e) - x * (ep * ep)) - yp * d * (e * e)) * e * (under * (ep * ep) * (e * e)) := by grobner
    rw [t2, hY]; grobner
  have x4 : y * (e * e * e) = Y * bottom := by
    apply Int.eq_of_mul_eq_mul_right hB2
    have t1 : y * (e * e * e) * (under * (ep * ep) * ep) = y * (under * (ep * ep) * ep) * (e * e * e) := by grobner
    rw [t1, x2]
    have t2 : (up * (ep * ep) * ep - yp * under) * bottom * (e * e * e) = (up * (ep * ep) * ep - yp * under) * (e * e * e) * bottom := by grobner
    rw [t2, x3]; grobner
  have hdv : bottom.natAbs ∣ (e * e * e).natAbs := Nat.Coprime.dvd_of_dvd_mul_left (Nat.Coprime.symm hc) ⟨Y.natAbs, by rw [← Int.natAbs_mul, x4, Int.natAbs_mul, Nat.mul_comm]⟩
  obtain ⟨k, hk⟩ : bottom ∣ e * e * e := Int.natAbs_dvd_natAbs.1 hdv
  refine ⟨?_, hb, Int.natAbs_dvd.2 ⟨k, hk⟩⟩
  rw [hk, Int.mul_tdiv_cancel_left _ (by omega)]
  apply Int.eq_of_mul_eq_mul_right (show bottom ≠ 0 by omega)
  rw [← x4, hk]; grobner
end Go.Proofs.YtokhadhfjbecmaaDoor
