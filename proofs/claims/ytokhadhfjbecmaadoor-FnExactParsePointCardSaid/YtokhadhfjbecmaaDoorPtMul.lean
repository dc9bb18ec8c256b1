/- Several texts in one (own work). -/
import Derived.Test.YtokhadhfjbecmaaDoorPtMath
import Derived.Test.YtokhadhfjbecmaaDoorPtS2
import Derived.Test.YtokhadhfjbecmaaDoorPtBox
namespace Go.Proofs.YtokhadhfjbecmaaDoor

/-- The slope in lowest terms. -/
def slN (a : Int) (p q : P3) : Int := lowP (slU a p q) (slF p q)
def slD (a : Int) (p q : P3) : Int := lowQ (slU a p q) (slF p q)
/-- x of the third point before lowest terms, out of a slope n / d. -/
def tN (n d : Int) (p q : P3) : Int := n * n * (p.e * p.e) * (q.e * q.e) - p.x * d * d * (q.e * q.e) - q.x * d * d * (p.e * p.e)
def tD (d : Int) (p q : P3) : Int := d * d * (p.e * p.e) * (q.e * q.e)
noncomputable def iroot (n : Int) : Int := (rootOf n.toNat : Nat)
/-- E^3 times y of the third point's opposite, times what it is to be divided by. -/
def tF (n d : Int) (p : P3) (x e : Int) : Int := n * p.e * (p.x * (e * e) - x * (p.e * p.e)) - p.y * d * (e * e)
def tY (n d : Int) (p : P3) (x e : Int) : Int := (tF n d p x e * e).tdiv (d * (p.e * p.e) * p.e)
/-- The slope and the third point stay within their limits. -/
structure Good (n d : Int) (p q : P3) : Prop where
  gd : d ≤ 8000
  gn : -(200 * d) ≤ n ∧ n ≤ 200 * d
  gr : iroot (lowQ (tN n d p q) (tD d p q)) * iroot (lowQ (tN n d p q) (tD d p q)) = lowQ (tN n d p q) (tD d p q)
  ge : iroot (lowQ (tN n d p q) (tD d p q)) ≤ 20
  gx : -10000 ≤ lowP (tN n d p q) (tD d p q) ∧ lowP (tN n d p q) (tD d p q) ≤ 10000
noncomputable instance (n d : Int) (p q : P3) : Decidable (Good n d p q) := Classical.propDecidable _
noncomputable def third (n d : Int) (p q : P3) : P3 := ⟨lowP (tN n d p q) (tD d p q), tY n d p (lowP (tN n d p q) (tD d p q)) (iroot (lowQ (tN n d p q) (tD d p q))), iroot (lowQ (tN n d p q) (tD d p q))⟩
/-- The sum of two points of a curve, if it is one. -/
noncomputable def addP (a : Int) (p q : P3) : Option P3 :=
  if p.e = 0 then some q else if q.e = 0 then some p else if slF p q = 0 then some .zero
  else if Good (slN a p q) (slD a p q) p q then some (third (slN a p q) (slD a p q) p q) else none

theorem slD_pos {a : Int} {p q : P3} (h : slF p q ≠ 0) : 0 < slD a p q := lowQ_pos h
theorem sl_cross {a : Int} {p q : P3} : slN a p q * slF p q = slU a p q * slD a p q := low_cross
theorem tD_pos {d : Int} {p q : P3} (hd : 0 < d) (hp : 1 ≤ p.e) (hq : 1 ≤ q.e) : 0 < tD d p q :=
  Int.mul_pos (Int.mul_pos (Int.mul_pos hd hd) (Int.mul_pos (by omega) (by omega))) (Int.mul_pos (by omega) (by omega))
/-- Bounds of all the numbers on the way. -/
theorem t_bd {n d : Int} {p q : P3} (hp : (-10000 ≤ p.x ∧ p.x ≤ 10000) ∧ (1 ≤ p.e ∧ p.e ≤ 20)) (hq : (-10000 ≤ q.x ∧ q.x ≤ 10000) ∧ (1 ≤ q.e ∧ q.e ≤ 20)) (hd : 1 ≤ d ∧ d ≤ 8000) (hn : -1600000 ≤ n ∧ n ≤ 1600000) :
    (0 ≤ n * n ∧ n * n ≤ 2560000000000) ∧ (0 ≤ n * n * (p.e * p.e) ∧ n * n * (p.e * p.e) ≤ 1024000000000000) ∧ (0 ≤ n * n * (p.e * p.e) * (q.e * q.e) ∧ n * n * (p.e * p.e) * (q.e * q.e) ≤ 409600000000000000) ∧
    (-80000000 ≤ p.x * d ∧ p.x * d ≤ 80000000) ∧ (-640000000000 ≤ p.x * d * d ∧ p.x * d * d ≤ 640000000000) ∧ (-256000000000000 ≤ p.x * d * d * (q.e * q.e) ∧ p.x * d * d * (q.e * q.e) ≤ 256000000000000) ∧
    (-80000000 ≤ q.x * d ∧ q.x * d ≤ 80000000) ∧ (-640000000000 ≤ q.x * d * d ∧ q.x * d * d ≤ 640000000000) ∧ (-256000000000000 ≤ q.x * d * d * (p.e * p.e) ∧ q.x * d * d * (p.e * p.e) ≤ 256000000000000) ∧
    (1 ≤ d * d ∧ d * d ≤ 64000000) ∧ (1 ≤ d * d * (p.e * p.e) ∧ d * d * (p.e * p.e) ≤ 25600000000) ∧ (1 ≤ d * d * (p.e * p.e) * (q.e * q.e) ∧ d * d * (p.e * p.e) * (q.e * q.e) ≤ 10240000000000) := by
  have ep := (ptE_bd hp.2).1
  have eq := (ptE_bd hq.2).1
  have n1 := fr_mul_bd hn.1 hn.2 hn.1 hn.2
  have n0 : 0 ≤ n * n := sq_nn n
  have n2 := mul_bd0 (a := n * n) (b := p.e * p.e) (M := 2560000000000) (N := 400) n0 (by omega) (by omega) (by omega)
  have n3 := mul_bd0 (a := n * n * (p.e * p.e)) (b := q.e * q.e) (M := 1024000000000000) (N := 400) n2.1 (by omega) (by omega) (by omega)
  have d0 : -8000 ≤ d := by omega
  have a1 := fr_mul_bd hp.1.1 hp.1.2 d0 hd.2
  have a2 := fr_mul_bd (a := p.x * d) (b := d) (M := 80000000) (N := 8000) (by omega) (by omega) d0 hd.2
  have a3 := fr_mul_bd (a := p.x * d * d) (b := q.e * q.e) (M := 640000000000) (N := 400) (by omega) (by omega) (by omega) (by omega)
  have b1 := fr_mul_bd hq.1.1 hq.1.2 d0 hd.2
  have b2 := fr_mul_bd (a := q.x * d) (b := d) (M := 80000000) (N := 8000) (by omega) (by omega) d0 hd.2
  have b3 := fr_mul_bd (a := q.x * d * d) (b := p.e * p.e) (M := 640000000000) (N := 400) (by omega) (by omega) (by omega) (by omega)
  have c1 := mul_bd1 hd.1 hd.2 hd.1 hd.2
  have c2 := mul_bd1 (a := d * d) (b := p.e * p.e) (M := 64000000) (N := 400) c1.1 (by omega) ep.1 ep.2
  have c3 := mul_bd1 (a := d * d * (p.e * p.e)) (b := q.e * q.e) (M := 25600000000) (N := 400) c2.1 (by omega) eq.1 eq.2
  omega
theorem iroot_bd {n : Int} (h : 1 ≤ n) : 1 ≤ iroot n := by
  have h1 := rootOf_spec n.toNat
  unfold iroot
  have : ¬ rootOf n.toNat = 0 := by
    intro k
    have := h1.2
    rw [k] at this
    omega
  omega
theorem iroot_sq {e : Int} (he : 0 ≤ e) : iroot (e * e) = e := by
  have h0 : 0 ≤ e * e := Int.mul_nonneg he he
  have h1 : (e * e).toNat = e.toNat * e.toNat := by
    have : ((e.toNat * e.toNat : Nat) : Int) = e * e := by rw [Int.natCast_mul]; rw [show ((e.toNat : Nat) : Int) = e from by omega]
    omega
  have h2 : Root e.toNat (e * e).toNat := by
    rw [h1]
    exact ⟨Nat.le_refl _, Nat.mul_lt_mul'' (by omega) (by omega)⟩
  unfold iroot
  rw [← h2.eq]
  omega

theorem coprime_dvd {x e : Int} (h : Nat.gcd x.natAbs (e * e).natAbs = 1) : Nat.gcd x.natAbs e.natAbs = 1 := by
  rw [Int.natAbs_mul] at h
  exact Nat.Coprime.coprime_dvd_right (Nat.dvd_mul_right _ _) h
theorem third_core {a b n d x e : Int} {p q : P3} (hc : (-1000 ≤ a ∧ a ≤ 1000) ∧ (-10000 ≤ b ∧ b ≤ 10000)) (gp : Fin3 a b p) (gq : Fin3 a b q) (hF : slF p q ≠ 0) (hs : n * slF p q = slU a p q * d) (hd : 0 < d)
    (hcr : x * tD d p q = tN n d p q * (e * e)) (hcp : Nat.gcd x.natAbs (e * e).natAbs = 1) (he : 1 ≤ e ∧ e ≤ 20) (hx : -10000 ≤ x ∧ x ≤ 10000) :
    Fin3 a b ⟨x, tY n d p x e, e⟩ ∧ tF n d p x e * e = tY n d p x e * (d * (p.e * p.e) * p.e) := by
  obtain ⟨y, h1, h2⟩ := third_sq (e := e) gp gq hF hs (by omega) (show x * (d * d * (p.e * p.e) * (q.e * q.e)) = _ from hcr)
  have hne : d * (p.e * p.e) * p.e ≠ 0 := Int.mul_ne_zero (Int.mul_ne_zero (by omega) (Int.mul_ne_zero (by have := gp.e; omega) (by have := gp.e; omega))) (by have := gp.e; omega)
  have hy : tY n d p x e = y := by unfold tY tF; rw [h1]; exact Int.mul_tdiv_cancel _ hne
  rw [hy]
  exact ⟨⟨hx, he, y_bd h2 (ptV_le hc.1 hc.2 hx he).2, coprime_dvd hcp, h2⟩, h1⟩
/-- What a good slope leads to is a point of the curve. -/
theorem third_on {a b n d : Int} {p q : P3} (hc : (-1000 ≤ a ∧ a ≤ 1000) ∧ (-10000 ≤ b ∧ b ≤ 10000)) (gp : Fin3 a b p) (gq : Fin3 a b q) (hF : slF p q ≠ 0) (hs : n * slF p q = slU a p q * d) (hd : 0 < d) (g : Good n d p q) :
    Fin3 a b (third n d p q) ∧ tF n d p (third n d p q).x (third n d p q).e * (third n d p q).e = (third n d p q).y * (d * (p.e * p.e) * p.e) := by
  have hD := tD_pos hd gp.e.1 gq.e.1
  have hq1 := lowQ_pos (n := tN n d p q) (d := tD d p q) (by omega)
  refine third_core hc gp gq hF hs hd ?_ ?_ ⟨iroot_bd (by omega), g.ge⟩ g.gx
  · rw [g.gr]; exact low_cross
  · rw [g.gr]; exact low_coprime (by omega)
theorem addP_on {a b : Int} {p q r : P3} (hc : (-1000 ≤ a ∧ a ≤ 1000) ∧ (-10000 ≤ b ∧ b ≤ 10000)) (gp : PtOn a b p) (gq : PtOn a b q) (h : addP a p q = some r) : PtOn a b r := by
  unfold addP at h
  split at h
  · cases h; exact gq
  · split at h
    · cases h; exact gp
    · split at h
      · cases h; exact .inl rfl
      · split at h
        · rename_i h1 h2 h3 h4
          cases h
          exact .inr (third_on hc (gp.fin h1) (gq.fin h2) h3 sl_cross (slD_pos h3) h4).1
        · cases h
/-- A slope that is too great leads to an x that is too great. -/
theorem far_x {n d : Int} {p q : P3} (hp : (-10000 ≤ p.x ∧ p.x ≤ 10000) ∧ (1 ≤ p.e ∧ p.e ≤ 20)) (hq : (-10000 ≤ q.x ∧ q.x ≤ 10000) ∧ (1 ≤ q.e ∧ q.e ≤ 20)) (hd : 0 < d) (hn : n < -(174 * d) ∨ 174 * d < n) : 10000 < lowP (tN n d p q) (tD d p q) := by
  have hD := tD_pos hd hp.2.1 hq.2.1
  have hq1 := lowQ_pos (n := tN n d p q) (d := tD d p q) (by omega)
  have hcr := low_cross (n := tN n d p q) (d := tD d p q)
  have ep := (ptE_bd hp.2).1
  have eq := (ptE_bd hq.2).1
  have hnn : 30276 * (d * d) ≤ n * n := by
    have e1 : 30276 * (d * d) = (174 * d) * (174 * d) := by grind
    rw [e1]
    rcases hn with k | k
    · have := Int.mul_le_mul (a := 174 * d) (b := 174 * d) (c := -n) (d := -n) (by omega) (by omega) (by omega) (by omega)
      rwa [Int.neg_mul_neg] at this
    · exact Int.mul_le_mul (by omega) (by omega) (by omega) (by omega)
  -- tN is more than 10000 tD
  have hdd : 0 < d * d := Int.mul_pos hd hd
  have hgt : 10000 * tD d p q < tN n d p q := by
    obtain ⟨P, hP⟩ : ∃ P, p.e * p.e = P := ⟨_, rfl⟩
    obtain ⟨Q, hQ⟩ : ∃ Q, q.e * q.e = Q := ⟨_, rfl⟩
    obtain ⟨D, hD'⟩ : ∃ D, d * d = D := ⟨_, rfl⟩
    unfold tN tD
    have s1 : n * n * (p.e * p.e) * (q.e * q.e) - p.x * d * d * (q.e * q.e) - q.x * d * d * (p.e * p.e) - 10000 * (d * d * (p.e * p.e) * (q.e * q.e)) = (n * n - 30276 * (d * d)) * (p.e * p.e) * (q.e * q.e) + (d * d) * (20276 * ((p.e * p.e) * (q.e * q.e)) - p.x * (q.e * q.e) - q.x * (p.e * p.e)) := by grind
    have s2 : 0 ≤ (n * n - 30276 * (d * d)) * (p.e * p.e) * (q.e * q.e) := Int.mul_nonneg (Int.mul_nonneg (by omega) (by omega)) (by omega)
    rw [hP, hQ] at s1 s2
    rw [hP, hQ]
    rw [hP] at ep
    rw [hQ] at eq
    have s3 : p.x * Q ≤ 10000 * Q := Int.mul_le_mul_of_nonneg_right hp.1.2 (by omega)
    have s4 : q.x * P ≤ 10000 * P := Int.mul_le_mul_of_nonneg_right hq.1.2 (by omega)
    have s5 : Q ≤ P * Q := by have := Int.mul_le_mul_of_nonneg_right ep.1 (show 0 ≤ Q by omega); omega
    have s6 : P ≤ P * Q := by have := Int.mul_le_mul_of_nonneg_left eq.1 (show 0 ≤ P by omega); omega
    have s7 : 0 < (d * d) * (20276 * (P * Q) - p.x * Q - q.x * P) := Int.mul_pos hdd (by omega)
    omega
  have h2 : 10000 * lowQ (tN n d p q) (tD d p q) * tD d p q < lowP (tN n d p q) (tD d p q) * tD d p q := by
    rw [hcr]
    have := Int.mul_lt_mul_of_pos_right hgt hq1
    have e2 : 10000 * lowQ (tN n d p q) (tD d p q) * tD d p q = 10000 * tD d p q * lowQ (tN n d p q) (tD d p q) := by grind
    rw [e2]; exact this
  have := Int.lt_of_mul_lt_mul_right h2 (by omega)
  omega
end Go.Proofs.YtokhadhfjbecmaaDoor

namespace Go.Proofs.YtokhadhfjbecmaaDoor
open Go.RowKit Go.Joins

theorem Box.off {w : World} {g g' i : Nat} {t : TypeId} {cs : Array Value} (h : Box w g t cs) (hne : g ≠ g') (u : Value) : Box (w.setCell ⟨g', i, none⟩ u) g t cs := (heap_setCell_other w ⟨g', i, none⟩ g u hne).trans h
theorem Box.off3 {w : World} {g g' : Nat} {t : TypeId} {cs : Array Value} (h : Box w g t cs) (hne : g ≠ g') (u v s : Value) : Box (((w.setCell ⟨g', 0, none⟩ u).setCell ⟨g', 1, none⟩ v).setCell ⟨g', 2, none⟩ s) g t cs :=
  ((h.off hne u).off hne v).off hne s
theorem Box.set3 {w : World} {g : Nat} {t : TypeId} {x y z : Value} (h : Box w g t #[x, y, z]) (u v s : Value) : Box (((w.setCell ⟨g, 0, none⟩ u).setCell ⟨g, 1, none⟩ v).setCell ⟨g, 2, none⟩ s) g t #[u, v, s] :=
  ((h.set 0 u).set 1 v).set 2 s
/-- The multiples of a point: what comes out of infinity by adding the point. -/
noncomputable def mult (a : Int) (p : P3) : Nat → Option P3
  | 0 => some .zero
  | k + 1 => (mult a p k).bind fun s => addP a s p
theorem mult_step {a : Int} {p s : P3} {j : Nat} (h : mult a p j = some s) : mult a p (j + 1) = addP a s p := by rw [mult, h]; rfl
theorem mult_none {a : Int} {p : P3} {j : Nat} (h : mult a p j = none) : ∀ m, mult a p (j + m) = none
  | 0 => h
  | m + 1 => by rw [← Nat.add_assoc, mult, mult_none h m]; rfl
theorem mult_on {a b : Int} {p : P3} (hc : (-1000 ≤ a ∧ a ≤ 1000) ∧ (-10000 ≤ b ∧ b ≤ 10000)) (gp : PtOn a b p) : ∀ {j : Nat} {s : P3}, mult a p j = some s → PtOn a b s
  | 0, s, h => by cases h; exact .inl rfl
  | j + 1, s, h => by
    cases hj : mult a p j with
    | none => rw [mult, hj] at h; cases h
    | some r => rw [mult_step hj] at h; exact addP_on hc (mult_on hc gp hj) gp h
end Go.Proofs.YtokhadhfjbecmaaDoor
