/- Residues modulo primes: plain facts (own work): primes, cancelling, orders, primitive roots up to 997, valuations. -/
import Derived.KernelRfl
import Derived.Lib.Hide
namespace Go.Proofs.Ytbgoiflkpefckaa

/-- Nothing from 2 on and below d divides n. -/
def NoDiv (d n : Nat) : Prop := ∀ k, 2 ≤ k → k < d → n % k ≠ 0
/-- p is a prime. -/
def Pr (p : Nat) : Prop := 2 ≤ p ∧ ∀ k, 2 ≤ k → k * k ≤ p → p % k ≠ 0

theorem NoDiv.two (n : Nat) : NoDiv 2 n := fun k h1 h2 => by omega
theorem NoDiv.succ {d n : Nat} (h : NoDiv d n) (hd : n % d ≠ 0) : NoDiv (d + 1) n := fun k h1 h2 => by
  by_cases e : k = d
  · subst e; exact hd
  · exact h k h1 (by omega)
theorem Pr.of {d p : Nat} (h : NoDiv d p) (h2 : 2 ≤ p) (hd : p < d * d) : Pr p := ⟨h2, fun k h1 hk => h k h1 (by
  apply Nat.lt_of_not_le; intro hle
  have := Nat.mul_le_mul hle hle
  omega)⟩
theorem Pr.not {d p : Nat} (h1 : 2 ≤ d) (h2 : d * d ≤ p) (h3 : p % d = 0) : ¬ Pr p := fun h => h.2 d h1 h2 h3
theorem Pr.noDiv {p : Nat} (h : Pr p) : NoDiv p p := fun k h1 h2 h3 => by
  have e := Nat.div_add_mod p k
  rw [h3, Nat.add_zero] at e
  obtain ⟨m, hm⟩ : ∃ m, m = p / k := ⟨_, rfl⟩
  rw [← hm] at e
  have hm2 : 2 ≤ m := by
    rcases m with _ | _ | m
    · rw [Nat.mul_zero] at e; have := h.1; omega
    · rw [Nat.zero_add, Nat.mul_one] at e; omega
    · omega
  by_cases hkk : k * k ≤ p
  · exact h.2 k h1 hkk h3
  · have hmk : m < k := by
      apply Nat.lt_of_not_le; intro hle
      have := Nat.mul_le_mul (Nat.le_refl k) hle
      omega
    have hmm : m * m ≤ p := by
      have := Nat.mul_le_mul (Nat.le_of_lt hmk) (Nat.le_refl m)
      omega
    exact h.2 m hm2 hmm (by rw [← e]; exact Nat.mul_mod_left k m)

theorem Pr.coprime {p a : Nat} (h : Pr p) (ha : a % p ≠ 0) : Nat.gcd p a = 1 := by
  have h1 : Nat.gcd p a ∣ p := Nat.gcd_dvd_left p a
  have h2 : Nat.gcd p a ∣ a := Nat.gcd_dvd_right p a
  have hp := h.1
  have h3 : Nat.gcd p a ≤ p := Nat.le_of_dvd (by omega) h1
  have h0 : 0 < Nat.gcd p a := Nat.gcd_pos_of_pos_left a (by omega)
  by_cases e : Nat.gcd p a = p
  · rw [e] at h2
    exact absurd (Nat.mod_eq_zero_of_dvd h2) ha
  · by_cases e1 : Nat.gcd p a = 1
    · exact e1
    · exact absurd (Nat.mod_eq_zero_of_dvd h1) (h.noDiv _ (by omega) (by omega))
theorem Pr.mul_ne {p a b : Nat} (h : Pr p) (ha : a % p ≠ 0) (hb : b % p ≠ 0) : (a * b) % p ≠ 0 := fun e => by
  have := Nat.Coprime.dvd_of_dvd_mul_left (h.coprime ha) (Nat.dvd_of_mod_eq_zero e)
  exact hb (Nat.mod_eq_zero_of_dvd this)
theorem Pr.cancel {p c a b : Nat} (h : Pr p) (hc : c % p ≠ 0) (e : (c * a) % p = (c * b) % p) : (b - a) % p = 0 := by
  have h1 : (c * b - c * a) % p = 0 := Nat.sub_mod_eq_zero_of_mod_eq e.symm
  rw [← Nat.mul_sub] at h1
  have := Nat.Coprime.dvd_of_dvd_mul_left (h.coprime hc) (Nat.dvd_of_mod_eq_zero h1)
  exact Nat.mod_eq_zero_of_dvd this

/-- n is the order of g modulo p. -/
def Ord (g p n : Nat) : Prop := 1 ≤ n ∧ g ^ n % p = 1 ∧ ∀ k, 1 ≤ k → k < n → g ^ k % p ≠ 1

theorem Pr.pow_ne {p g : Nat} (h : Pr p) (hg : g % p ≠ 0) : ∀ k, g ^ k % p ≠ 0
  | 0 => by rw [Nat.pow_zero, Nat.mod_eq_of_lt (by have := h.1; omega)]; omega
  | k + 1 => by rw [Nat.pow_succ]; exact h.mul_ne (h.pow_ne hg k) hg
theorem pow_step (g p k : Nat) : g ^ k % p * g % p = g ^ (k + 1) % p := by rw [Nat.mod_mul_mod, Nat.pow_succ]
theorem Pr.one {p : Nat} (h : Pr p) : 1 % p = 1 := Nat.mod_eq_of_lt (by have := h.1; omega)
/-- Two powers alike: a power with the difference is 1. -/
theorem Pr.same {p g i j : Nat} (h : Pr p) (hg : g % p ≠ 0) (hij : i < j) (e : g ^ i % p = g ^ j % p) : g ^ (j - i) % p = 1 := by
  have h1 : (g ^ i * 1) % p = (g ^ i * g ^ (j - i)) % p := by
    rw [Nat.mul_one, ← Nat.pow_add, show i + (j - i) = j from by omega]
    exact e
  have hp : 1 ≤ g ^ (j - i) := Nat.one_le_pow _ _ (by
    apply Nat.pos_of_ne_zero; intro h0; subst h0; exact hg (Nat.zero_mod p))
  have h2 := h.cancel (h.pow_ne hg i) h1
  have h3 : g ^ (j - i) = (g ^ (j - i) - 1) + 1 := by omega
  rw [h3, Nat.add_mod, h2, Nat.zero_add, Nat.mod_mod, h.one]

/-- Many numbers below m: two are alike. -/
theorem two_alike : ∀ (m : Nat) (f : Nat → Nat), (∀ k, k ≤ m → f k < m) → ∃ i j, i < j ∧ j ≤ m ∧ f i = f j
  | 0, f, h => absurd (h 0 (Nat.le_refl 0)) (by omega)
  | m + 1, f, h => by
    by_cases hx : ∃ i, i < m + 1 ∧ f i = f (m + 1)
    · obtain ⟨i, h1, h2⟩ := hx
      exact ⟨i, m + 1, h1, Nat.le_refl _, h2⟩
    · have hne : ∀ i, i < m + 1 → f i ≠ f (m + 1) := fun i hi e => hx ⟨i, hi, e⟩
      obtain ⟨i, j, h1, h2, h3⟩ := two_alike m (fun k => if f k < f (m + 1) then f k else f k - 1) (fun k hk => by
        have a := h k (by omega)
        have b := h (m + 1) (Nat.le_refl _)
        have c := hne k (by omega)
        show (if f k < f (m + 1) then f k else f k - 1) < m
        split <;> omega)
      refine ⟨i, j, h1, by omega, ?_⟩
      have ci := hne i (by omega)
      have cj := hne j (by omega)
      have h3' : (if f i < f (m + 1) then f i else f i - 1) = (if f j < f (m + 1) then f j else f j - 1) := h3
      split at h3' <;> split at h3' <;> omega

/-- The least one. -/
theorem least_of (P : Nat → Prop) [DecidablePred P] : ∀ n, P n → ∃ m, m ≤ n ∧ P m ∧ ∀ k, k < m → ¬ P k := by
  intro n
  induction n using Nat.strongRecOn with
  | _ n ih =>
    intro h
    by_cases hx : ∃ k, k < n ∧ P k
    · obtain ⟨k, h1, h2⟩ := hx
      obtain ⟨m, a, b, c⟩ := ih k h1 h2
      exact ⟨m, by omega, b, c⟩
    · exact ⟨n, Nat.le_refl _, h, fun k hk hp => hx ⟨k, hk, hp⟩⟩

theorem Pr.order {p g : Nat} (h : Pr p) (hg : g % p ≠ 0) : ∃ n, Ord g p n ∧ n ≤ p - 1 := by
  have hp := h.1
  obtain ⟨i, j, h1, h2, h3⟩ := two_alike (p - 1) (fun k => g ^ k % p - 1) (fun k _ => by
    have := h.pow_ne hg k
    have := Nat.mod_lt (g ^ k) (show p > 0 by omega)
    show g ^ k % p - 1 < p - 1
    omega)
  have e : g ^ i % p = g ^ j % p := by
    have a := h.pow_ne hg i
    have b := h.pow_ne hg j
    have h3' : g ^ i % p - 1 = g ^ j % p - 1 := h3
    omega
  have h4 := h.same hg h1 e
  obtain ⟨m, a, b, c⟩ := least_of (fun n => 1 ≤ n ∧ g ^ n % p = 1) (j - i) ⟨by omega, h4⟩
  exact ⟨m, ⟨b.1, b.2, fun k k1 k2 e => c k k2 ⟨k1, e⟩⟩, by omega⟩

theorem Ord.unique {g p n m : Nat} (h : Ord g p n) (h' : Ord g p m) : n = m := by
  apply Nat.le_antisymm
  · apply Nat.le_of_not_lt; intro hlt; exact h.2.2 m h'.1 hlt h'.2.1
  · apply Nat.le_of_not_lt; intro hlt; exact h'.2.2 n h.1 hlt h.2.1
theorem Ord.apart {g p n i j : Nat} (h : Ord g p n) (hp : Pr p) (hg : g % p ≠ 0) (hij : i < j) (hj : j < n) : g ^ i % p ≠ g ^ j % p := fun e =>
  h.2.2 (j - i) (by omega) (by omega) (hp.same hg hij e)
/-- All powers are among the first n. -/
theorem Ord.again {g p n : Nat} (h : Ord g p n) (hp : Pr p) (k : Nat) : g ^ k % p = g ^ (k % n) % p := by
  have e := Nat.div_add_mod k n
  conv => lhs; rw [← e, Nat.pow_add, Nat.pow_mul, Nat.mul_mod, Nat.pow_mod, h.2.1, Nat.one_pow, hp.one, Nat.one_mul, Nat.mod_mod]
/-- A power has no greater order. -/
theorem Ord.power {g p n j m : Nat} (h : Ord g p n) (hp : Pr p) (hm : Ord (g ^ j % p) p m) : m ≤ n := by
  apply Nat.le_of_not_lt; intro hlt
  refine hm.2.2 n h.1 hlt ?_
  rw [← Nat.pow_mod, ← Nat.pow_mul, Nat.mul_comm, Nat.pow_mul, Nat.pow_mod, h.2.1, Nat.one_pow, hp.one]

/-- g ^ 1, .., g ^ k are not 1, g ^ (k + 1) is: x is g's power where it begins. -/
def full (g p : Nat) : Nat → Nat → Bool
  | 0, x => x == 1
  | n + 1, x => x != 1 && full g p n (x * g % p)
theorem full_at (g p : Nat) : ∀ (n i : Nat), full g p n (g ^ i % p) = true → g ^ (i + n) % p = 1 ∧ ∀ k, i ≤ k → k < i + n → g ^ k % p ≠ 1
  | 0, i, h => ⟨by simpa [full] using h, fun k h1 h2 => by omega⟩
  | n + 1, i, h => by
    simp only [full, Bool.and_eq_true, bne_iff_ne] at h
    obtain ⟨h1, h2⟩ := h
    rw [pow_step] at h2
    obtain ⟨a, b⟩ := full_at g p n (i + 1) h2
    refine ⟨by rw [show i + (n + 1) = i + 1 + n from by omega]; exact a, fun k k1 k2 => ?_⟩
    by_cases e : k = i
    · subst e; exact h1
    · exact b k (by omega) (by omega)
def fullOk (p : Nat) : Bool := (List.range 22).any (fun g => full g p (p - 2) (g % p) && decide (1 ≤ g) && decide (g < p))
def prOk (p : Nat) : Bool := decide (2 ≤ p) && (List.range 32).all (fun k => decide (k < 2) || decide (p < k * k) || p % k != 0)
theorem all_full : (List.range 998).all (fun p => !prOk p || fullOk p) = true := by kernel_rfl
theorem Pr.root {p : Nat} (h : Pr p) (hp : p ≤ 997) : ∃ g, 1 ≤ g ∧ g < p ∧ Ord g p (p - 1) := by
  have h1 := List.all_eq_true.1 all_full p (List.mem_range.2 (by omega))
  have h2 : prOk p = true := by
    unfold prOk
    rw [Bool.and_eq_true]
    refine ⟨decide_eq_true h.1, List.all_eq_true.2 fun k hk => ?_⟩
    simp only [Bool.or_eq_true, decide_eq_true_eq, bne_iff_ne]
    by_cases a : k < 2
    · exact .inl (.inl a)
    · by_cases b : p < k * k
      · exact .inl (.inr b)
      · exact .inr (h.2 k (by omega) (by omega))
  rw [h2] at h1
  have h3 : fullOk p = true := by simpa using h1
  obtain ⟨g, _, h4⟩ := List.any_eq_true.1 h3
  simp only [Bool.and_eq_true, decide_eq_true_eq] at h4
  have hp2 := h.1
  have h5 : full g p (p - 2) (g ^ 1 % p) = true := by rw [Nat.pow_one]; exact h4.1.1
  obtain ⟨a, b⟩ := full_at g p (p - 2) 1 h5
  rw [show 1 + (p - 2) = p - 1 from by omega] at a b
  exact ⟨g, h4.1.2, h4.2, by omega, a, fun k k1 k2 => b k k1 k2⟩
open Classical in
/-- The least primitive root. -/
theorem Pr.least_root {p : Nat} (h : Pr p) (hp : p ≤ 997) : ∃ g, 1 ≤ g ∧ g < p ∧ Ord g p (p - 1) ∧ ∀ k, 1 ≤ k → k < g → ¬ Ord k p (p - 1) := by
  obtain ⟨g, h1, h2, h3⟩ := h.root hp
  obtain ⟨m, a, b, c⟩ := least_of (fun n => 1 ≤ n ∧ Ord n p (p - 1)) g ⟨h1, h3⟩
  exact ⟨m, b.1, by omega, b.2, fun k k1 k2 e => c k k2 ⟨k1, e⟩⟩

/-- a = r p ^ n, p does not divide r. -/
theorem val_exists (p : Int) (hp : 2 ≤ p) : ∀ (m : Nat) (a : Int), a.natAbs ≤ m → a ≠ 0 → ∃ (n : Nat) (r : Int), a = r * p ^ n ∧ ¬ p ∣ r ∧ n ≤ m
  | 0, a, h, h0 => absurd (Int.natAbs_eq_zero.1 (Nat.le_zero.1 h)) h0
  | m + 1, a, h, h0 => by
    by_cases hd : p ∣ a
    · obtain ⟨b, rfl⟩ := hd
      have hb0 : b ≠ 0 := by rintro rfl; exact h0 (Int.mul_zero p)
      have hb : b.natAbs ≤ m := by
        rw [Int.natAbs_mul] at h
        have h2 : 2 ≤ p.natAbs := by omega
        have := Nat.mul_le_mul h2 (Nat.le_refl b.natAbs)
        have : 0 < b.natAbs := Int.natAbs_pos.2 hb0
        omega
      obtain ⟨n, r, e, h1, h2⟩ := val_exists p hp m b hb hb0
      exact ⟨n + 1, r, by rw [e, Int.pow_succ, Int.mul_comm p, Int.mul_assoc], h1, by omega⟩
    · exact ⟨0, a, by rw [Int.pow_zero, Int.mul_one], hd, Nat.zero_le _⟩
/-- q is the least divisor of n from 2 on. -/
def Least (q n : Nat) : Prop := 2 ≤ q ∧ n % q = 0 ∧ NoDiv q n
theorem Least.exist {n : Nat} (h : 2 ≤ n) : ∃ q, Least q n ∧ q ≤ n := by
  obtain ⟨m, a, b, c⟩ := least_of (fun k => 2 ≤ k ∧ n % k = 0) n ⟨h, Nat.mod_self n⟩
  exact ⟨m, ⟨b.1, b.2, fun k k1 k2 e => c k k2 ⟨k1, e⟩⟩, a⟩
theorem Least.eq {q n d : Nat} (h : Least q n) (hd : NoDiv d n) (h2 : 2 ≤ d) (e : n % d = 0) : d = q := by
  apply Nat.le_antisymm
  · apply Nat.le_of_not_lt; intro hlt; exact hd q h.1 hlt h.2.1
  · apply Nat.le_of_not_lt; intro hlt; exact h.2.2 d h2 hlt e
theorem Least.self {q n d : Nat} (h : Least q n) (hd : NoDiv d n) (h2 : 2 ≤ n) (e : n < d * d) : q = n := by
  have hp : Pr n := Pr.of hd h2 e
  have hq : q ≤ n := Nat.le_of_dvd (by omega) (Nat.dvd_of_mod_eq_zero h.2.1)
  apply Nat.le_antisymm hq
  apply Nat.le_of_not_lt; intro hlt; exact hp.noDiv q h.1 hlt h.2.1
theorem Least.ge {q n d : Nat} (h : Least q n) (hd : NoDiv d n) : d ≤ q := by
  apply Nat.le_of_not_lt; intro hlt; exact hd q h.1 hlt h.2.1
theorem Least.prime {q n : Nat} (h : Least q n) (h2 : 2 ≤ n) : q = n ↔ Pr n := by
  constructor
  · rintro rfl
    exact ⟨h.1, fun k h1 hk => h.2.2 k h1 (by
      apply Nat.lt_of_not_le; intro hle
      have h3 := Nat.mul_le_mul hle (show 2 ≤ k by omega)
      omega)⟩
  · intro hp
    have hq : q ≤ n := Nat.le_of_dvd (by omega) (Nat.dvd_of_mod_eq_zero h.2.1)
    apply Nat.le_antisymm hq
    apply Nat.le_of_not_lt; intro hlt; exact hp.noDiv q h.1 hlt h.2.1
end Go.Proofs.Ytbgoiflkpefckaa
