/- Mathematics of chapter 7: curves modulo a prime, sums, multiples, orders (own work). -/
import Derived.Test.YtbgoiflkpefckaaRsMath
import Derived.Test.YtbgoiflkpefckaaEcMath
import Derived.Test.YtbgoiflkpefckaaFg
namespace Go.Proofs.Ytbgoiflkpefckaa
open Lean.Grind

/-- An integer in a ring. -/
def ca (R : Type) [CommRing R] (z : Int) : R := Ring.intCast.intCast z
section
variable {R : Type} [CommRing R]
attribute [local instance] Ring.intCast Semiring.natCast
theorem ca_add (x y : Int) : ca R (x + y) = ca R x + ca R y := Ring.intCast_add x y
theorem ca_sub (x y : Int) : ca R (x - y) = ca R x - ca R y := Ring.intCast_sub x y
theorem ca_mul (x y : Int) : ca R (x * y) = ca R x * ca R y := Ring.intCast_mul x y
theorem ca_neg (x : Int) : ca R (-x) = -ca R x := Ring.intCast_neg x
theorem ca_zero : ca R 0 = 0 := Ring.intCast_zero
theorem ca_one : ca R 1 = 1 := Ring.intCast_one
theorem ca_nat (n : Nat) : ca R (OfNat.ofNat n : Int) = (OfNat.ofNat n : R) := Ring.intCast_ofNat n
end
theorem ca_eq {p : Nat} [NeZero p] {x y : Int} : ca (Fin p) x = ca (Fin p) y ↔ x % p = y % p := IsCharP.intCast_ext_iff p
theorem ca_eq0 {p : Nat} [NeZero p] {x : Int} : ca (Fin p) x = 0 ↔ x % p = 0 := by
  rw [← ca_zero, ca_eq, Int.zero_emod]
theorem ca_onto {p : Nat} [NeZero p] (x : Fin p) : ∃ n : Nat, n < p ∧ ca (Fin p) n = x := by
  refine ⟨x.val, x.isLt, ?_⟩
  show Ring.intCast.intCast (x.val : Int) = x
  rw [show (Ring.intCast.intCast (x.val : Int) : Fin p) = Semiring.natCast.natCast x.val from Ring.intCast_natCast x.val]
  show Fin.ofNat p x.val = x
  ext
  exact Nat.mod_eq_of_lt x.isLt
theorem Pr.nz {p : Nat} [NeZero p] (hp : Pr p) : NZ (Fin p) := by
  intro x y h
  obtain ⟨m, hm, rfl⟩ := ca_onto x
  obtain ⟨n, hn, rfl⟩ := ca_onto y
  rw [← ca_mul, ca_eq0] at h
  rw [ca_eq0, ca_eq0]
  by_cases h1 : m % p = 0
  · left; omega
  · by_cases h2 : n % p = 0
    · right; omega
    · have h3 := hp.mul_ne h1 h2
      have h4 : ((m * n : Nat) : Int) = (m : Int) * n := Int.natCast_mul m n
      rw [← h4] at h
      omega

/-- r is one of the powers of g. -/
theorem Pr.log {p g : Nat} (hp : Pr p) (hg : Ord g p (p - 1)) (hg0 : g % p ≠ 0) {r : Nat} (h1 : 1 ≤ r) (h2 : r < p) : ∃ k, k < p - 1 ∧ g ^ k % p = r := by
  have hp2 := hp.1
  by_cases hx : ∃ k, k < p - 1 ∧ g ^ k % p = r
  · exact hx
  · exfalso
    have hne : ∀ k, k < p - 1 → g ^ k % p ≠ r := fun k hk e => hx ⟨k, hk, e⟩
    have hpos : ∀ k, 1 ≤ g ^ k % p ∧ g ^ k % p < p := fun k => ⟨by have := hp.pow_ne hg0 k; omega, Nat.mod_lt _ (by omega)⟩
    obtain ⟨i, j, hij, hj, e⟩ := two_alike (p - 2) (fun k => if g ^ k % p < r then g ^ k % p - 1 else g ^ k % p - 2) (fun k hk => by
      have a := hpos k
      have b := hne k (by omega)
      show (if g ^ k % p < r then g ^ k % p - 1 else g ^ k % p - 2) < p - 2
      split <;> omega)
    have e' : (if g ^ i % p < r then g ^ i % p - 1 else g ^ i % p - 2) = (if g ^ j % p < r then g ^ j % p - 1 else g ^ j % p - 2) := e
    have ai := hpos i
    have aj := hpos j
    have bi := hne i (by omega)
    have bj := hne j (by omega)
    have := hg.apart hp hg0 hij (by omega)
    split at e' <;> split at e' <;> omega
theorem Pr.fermat {p r : Nat} (hp : Pr p) (hp2 : p ≤ 997) (h : r % p ≠ 0) : r ^ (p - 1) % p = 1 := by
  obtain ⟨g, g1, g2, hg⟩ := hp.root hp2
  have hp1 := hp.1
  obtain ⟨k, _, hk⟩ := hp.log hg (by rw [Nat.mod_eq_of_lt g2]; omega) (r := r % p) (by omega) (Nat.mod_lt _ (by omega))
  rw [Nat.pow_mod, ← hk, ← Nat.pow_mod, ← Nat.pow_mul, Nat.mul_comm, Nat.pow_mul, Nat.pow_mod, hg.2.1, Nat.one_pow, hp.one]
theorem Pr.half {p r : Nat} (hp : Pr p) (hp2 : p ≤ 997) (h5 : 3 ≤ p) (h : r % p ≠ 0) : (r ^ ((p - 1) / 2) % p = 1 ∧ ∃ y, 1 ≤ y ∧ y < p ∧ y * y % p = r % p) ∨ (r ^ ((p - 1) / 2) % p = p - 1 ∧ ∀ y, y * y % p ≠ r % p) := by
  have hodd : p % 2 = 1 := by
    have := hp.noDiv 2 (by omega) (by omega); omega
  obtain ⟨H, hH⟩ : ∃ H, H = (p - 1) / 2 := ⟨_, rfl⟩
  have hHH : 2 * H = p - 1 := by omega
  rw [← hH]
  have hsq : r ^ H % p * (r ^ H % p) % p = 1 := by
    rw [← Nat.mul_mod, ← Nat.pow_add, show H + H = p - 1 from by omega]; exact hp.fermat hp2 h
  have hlt : r ^ H % p < p := Nat.mod_lt _ (by omega)
  obtain ⟨q, hq⟩ : ∃ q, q = r ^ H % p := ⟨_, rfl⟩
  rw [← hq] at hsq hlt ⊢
  have hq1 : q = 1 ∨ q = p - 1 := by
    have hq0 : q ≠ 0 := by intro e; rw [e, Nat.zero_mul, Nat.zero_mod] at hsq; omega
    by_cases e1 : q = 1
    · exact .inl e1
    · by_cases e2 : q = p - 1
      · exact .inr e2
      · exfalso
        have a : (q - 1) % p ≠ 0 := by rw [Nat.mod_eq_of_lt (by omega)]; omega
        have b : (q + 1) % p ≠ 0 := by rw [Nat.mod_eq_of_lt (by omega)]; omega
        refine hp.mul_ne a b ?_
        have e3 : (q - 1) * (q + 1) = q * q - 1 := by
          obtain ⟨m, rfl⟩ : ∃ m, q = m + 1 := ⟨q - 1, by omega⟩
          show m * (m + 1 + 1) = (m + 1) * (m + 1) - 1
          have : (m + 1) * (m + 1) = m * (m + 1 + 1) + 1 := by simp only [Nat.add_mul, Nat.mul_add, Nat.mul_one, Nat.one_mul]; omega
          omega
        rw [e3]
        have : q * q = p * (q * q / p) + 1 := by have := Nat.div_add_mod (q * q) p; omega
        rw [this, Nat.add_sub_cancel]
        exact Nat.mul_mod_right _ _
  obtain ⟨g, g1, g2, hg⟩ := hp.root hp2
  have hg0 : g % p ≠ 0 := by rw [Nat.mod_eq_of_lt g2]; omega
  obtain ⟨k, hk1, hk⟩ := hp.log hg hg0 (r := r % p) (by omega) (Nat.mod_lt _ (by omega))
  rcases hq1 with e1 | e1
  · left
    refine ⟨e1, ?_⟩
    have hkH : g ^ (k * H) % p = 1 := by
      rw [Nat.pow_mul, Nat.pow_mod, hk, ← Nat.pow_mod, ← hq]; exact e1
    have hev : k % 2 = 0 := by
      apply Nat.eq_zero_of_not_pos; intro hpos
      have hk2 : k % 2 = 1 := by omega
      obtain ⟨j, hj⟩ : ∃ j, k = 2 * j + 1 := ⟨k / 2, by omega⟩
      have e5 : k * H = (p - 1) * j + H := by rw [hj, Nat.add_mul, Nat.one_mul, Nat.mul_assoc, Nat.mul_comm j H, ← Nat.mul_assoc, hHH]
      rw [e5, Nat.pow_add, Nat.pow_mul, Nat.mul_mod, Nat.pow_mod, hg.2.1, Nat.one_pow, hp.one, Nat.one_mul, Nat.mod_mod] at hkH
      exact hg.2.2 H (by omega) (by omega) hkH
    have h0 := hp.pow_ne hg0 (k / 2)
    refine ⟨g ^ (k / 2) % p, by omega, Nat.mod_lt _ (by omega), ?_⟩
    rw [← Nat.mul_mod, ← Nat.pow_add, show k / 2 + k / 2 = k from by omega, hk]
  · right
    refine ⟨e1, fun y hy => ?_⟩
    have hy0 : y % p ≠ 0 := by
      intro e; rw [Nat.mul_mod, e, Nat.zero_mul, Nat.zero_mod] at hy; omega
    have e2 : r ^ H % p = y ^ (2 * H) % p := by
      rw [Nat.pow_mod, ← hy, ← Nat.pow_mod, Nat.pow_mul]
      congr 1
      rw [Nat.pow_two]
    rw [hHH, hp.fermat hp2 hy0] at e2
    omega

/-- How many numbers below n have the property. -/
def cnt (P : Nat → Bool) : Nat → Nat
  | 0 => 0
  | n + 1 => cnt P n + (if P n then 1 else 0)
theorem cnt_none {P : Nat → Bool} : ∀ n, (∀ y, y < n → P y = false) → cnt P n = 0
  | 0, _ => rfl
  | n + 1, h => by rw [cnt, cnt_none n (fun y hy => h y (by omega)), h n (by omega)]; rfl
theorem cnt_one {P : Nat → Bool} {x : Nat} (hx : P x = true) : ∀ n, x < n → (∀ y, y < n → y ≠ x → P y = false) → cnt P n = 1
  | 0, h, _ => by omega
  | n + 1, h, hn => by
    by_cases e : x = n
    · subst e
      rw [cnt, cnt_none x (fun y hy => hn y (by omega) (by omega)), hx]; rfl
    · rw [cnt, cnt_one hx n (by omega) (fun y hy => hn y (by omega)), hn n (by omega) (by omega)]; rfl
theorem cnt_two {P : Nat → Bool} {x z : Nat} (hx : P x = true) (hz : P z = true) (hxz : x < z) : ∀ n, z < n → (∀ y, y < n → y ≠ x → y ≠ z → P y = false) → cnt P n = 2
  | 0, h, _ => by omega
  | n + 1, h, hn => by
    by_cases e : z = n
    · subst e
      rw [cnt, cnt_one hx z hxz (fun y hy hne => hn y (by omega) hne (by omega)), hz]; rfl
    · rw [cnt, cnt_two hx hz hxz n (by omega) (fun y hy => hn y (by omega)), hn n (by omega) (by omega) (by omega)]; rfl

/-- Two roots of one number. -/
theorem Pr.roots {p x y : Nat} (hp : Pr p) (hx : x < p) (hy : y < p) (e : x * x % p = y * y % p) : x = y ∨ x + y = p ∨ (x = 0 ∧ y = 0) := by
  have hp1 := hp.1
  by_cases h : x ≤ y
  · have h1 : ((y - x) * (y + x)) % p = 0 := by
      have e3 : (y - x) * (y + x) = y * y - x * x := by
        obtain ⟨d, rfl⟩ : ∃ d, y = x + d := ⟨y - x, by omega⟩
        rw [show x + d - x = d from by omega]
        have : (x + d) * (x + d) = d * (x + d + x) + x * x := by simp only [Nat.add_mul, Nat.mul_add]; have := Nat.mul_comm d x; omega
        omega
      rw [e3]; exact Nat.sub_mod_eq_zero_of_mod_eq e.symm
    by_cases a : (y - x) % p = 0
    · rw [Nat.mod_eq_of_lt (by omega)] at a; left; omega
    · by_cases b : (y + x) % p = 0
      · right
        by_cases c : y + x < p
        · rw [Nat.mod_eq_of_lt c] at b; omega
        · left
          have : y + x - p < p := by omega
          rw [Nat.mod_eq_sub_mod (by omega), Nat.mod_eq_of_lt this] at b; omega
      · exact absurd h1 (hp.mul_ne a b)
  · have h1 : ((x - y) * (x + y)) % p = 0 := by
      have e3 : (x - y) * (x + y) = x * x - y * y := by
        obtain ⟨d, rfl⟩ : ∃ d, x = y + d := ⟨x - y, by omega⟩
        rw [show y + d - y = d from by omega]
        have : (y + d) * (y + d) = d * (y + d + y) + y * y := by simp only [Nat.add_mul, Nat.mul_add]; have := Nat.mul_comm d y; omega
        omega
      rw [e3]; exact Nat.sub_mod_eq_zero_of_mod_eq e
    by_cases a : (x - y) % p = 0
    · rw [Nat.mod_eq_of_lt (by omega)] at a; left; omega
    · by_cases b : (x + y) % p = 0
      · right
        by_cases c : x + y < p
        · rw [Nat.mod_eq_of_lt c] at b; omega
        · left
          have : x + y - p < p := by omega
          rw [Nat.mod_eq_sub_mod (by omega), Nat.mod_eq_of_lt this] at b; omega
      · exact absurd h1 (hp.mul_ne a b)
theorem neg_sq {p y : Nat} (h : y ≤ p) : (p - y) * (p - y) % p = y * y % p := by
  obtain ⟨d, rfl⟩ : ∃ d, p = y + d := ⟨p - y, by omega⟩
  rw [show y + d - y = d from by omega]
  have h1 : d * d + y * (y + d) = y * y + d * (y + d) := by simp only [Nat.mul_add]; have := Nat.mul_comm y d; omega
  have h2 : (d * d + y * (y + d)) % (y + d) = (y * y + d * (y + d)) % (y + d) := by rw [h1]
  rwa [Nat.add_mul_mod_self_right, Nat.add_mul_mod_self_right] at h2
/-- The number of roots. -/
def nroot (p v : Nat) : Nat := cnt (fun y => y * y % p == v) p
theorem Pr.count {p v : Nat} (hp : Pr p) (hp2 : p ≤ 997) (h5 : 3 ≤ p) (hv : v < p) : (nroot p v : Int) = 1 + (if v ^ ((p - 1) / 2) % p = p - 1 then -1 else ((v ^ ((p - 1) / 2) % p : Nat) : Int)) := by
  have hodd : p % 2 = 1 := by
    have := hp.noDiv 2 (by omega) (by omega); omega
  unfold nroot
  by_cases h0 : v = 0
  · subst h0
    rw [cnt_one (x := 0) (by simp) p (by omega) (fun y hy hne => by
      have := hp.mul_ne (a := y) (b := y) (by rw [Nat.mod_eq_of_lt hy]; exact hne) (by rw [Nat.mod_eq_of_lt hy]; exact hne)
      simp [this])]
    rw [Nat.zero_pow (by omega), Nat.zero_mod, if_neg (by omega)]
    rfl
  · have hv0 : v % p ≠ 0 := by rw [Nat.mod_eq_of_lt hv]; exact h0
    rcases hp.half hp2 h5 hv0 with ⟨e, y, y1, y2, hy⟩ | ⟨e, hn⟩
    · rw [Nat.mod_eq_of_lt hv] at hy
      have hz := neg_sq (p := p) (y := y) (by omega)
      rw [hy] at hz
      have key : cnt (fun y => y * y % p == v) p = 2 := by
        by_cases hlt : y < p - y
        · exact cnt_two (x := y) (z := p - y) (by simp [hy]) (by simp [hz]) hlt p (by omega) (fun w hw a b => by
            have : w * w % p ≠ v := fun e => by
              rcases hp.roots hw y2 (e.trans hy.symm) with q | q | q <;> omega
            simp [this])
        · exact cnt_two (x := p - y) (z := y) (by simp [hz]) (by simp [hy]) (by omega) p (by omega) (fun w hw a b => by
            have : w * w % p ≠ v := fun e => by
              rcases hp.roots hw y2 (e.trans hy.symm) with q | q | q <;> omega
            simp [this])
      rw [key, e, if_neg (by omega)]; rfl
    · rw [cnt_none p (fun y _ => by
        have := hn y
        rw [Nat.mod_eq_of_lt hv] at this
        simp [this]), e, if_pos rfl]; rfl
end Go.Proofs.Ytbgoiflkpefckaa
