/- Residues and powers: the model's mdMod, mdAsked, mdPower; the program's ResidueOf, PowerOf. -/
import Derived.Test.YtmknmjkcnlennaaRsPrime
namespace Go.Proofs.Ytmknmjkcnlennaa
open Go.RowKit Go.Joins

/-- p is a prime up to 997. -/
def IsP (p : Int) : Prop := ∃ q : Nat, p = q ∧ Pr q ∧ q ≤ 997
def IsA (a : Int) : Prop := -1000000000000 ≤ a ∧ a ≤ 1000000000000

theorem IsP.nat {q : Nat} : IsP (q : Int) ↔ (Pr q ∧ q ≤ 997) := ⟨fun ⟨x, h1, h2, h3⟩ => by
  have : q = x := by omega
  subst this
  exact ⟨h2, h3⟩, fun ⟨h1, h2⟩ => ⟨q, rfl, h1, h2⟩⟩

theorem mod_facts (a p : Int) (hp : 2 ≤ p) : -p < a.tmod p ∧ a.tmod p < p ∧ (a.tmod p + p).tmod p = a % p := by
  have h1 : 0 ≤ a → a.tmod p = a % p := fun h => Int.tmod_eq_emod_of_nonneg h
  have h2 : a ≤ 0 → a.tmod p = -((-a) % p) := fun h => by
    rw [show a = -(-a) from by omega, Int.neg_tmod, Int.tmod_eq_emod_of_nonneg (by omega), Int.neg_neg]
  have h3 : 0 ≤ a % p := Int.emod_nonneg _ (by omega)
  have h4 : a % p < p := Int.emod_lt_of_pos _ (by omega)
  have h5 : 0 ≤ (-a) % p := Int.emod_nonneg _ (by omega)
  have h6 : (-a) % p < p := Int.emod_lt_of_pos _ (by omega)
  have h7 : -p < a.tmod p ∧ a.tmod p < p := by
    by_cases h : 0 ≤ a
    · have := h1 h; omega
    · have := h2 (by omega); omega
  refine ⟨h7.1, h7.2, ?_⟩
  rw [Int.tmod_eq_emod_of_nonneg (by omega), Int.add_emod_right]
  have h8 : a.tmod p = a - p * (a.tdiv p) := by have := Int.mul_tdiv_add_tmod a p; omega
  rw [h8, Int.sub_mul_emod_self_left]

theorem mm {x y a b p : Nat} (h1 : x % p = y % p) (h2 : a % p = b % p) : x * a % p = y * b % p := by
  rw [Nat.mul_mod, h1, h2, ← Nat.mul_mod]
theorem pw_sq (x p n : Nat) : (x * x % p) ^ n % p = x ^ (2 * n) % p := by
  rw [← Nat.pow_mod, Nat.pow_mul, Nat.pow_two]
theorem pw_even {o x p n : Nat} (h : n % 2 = 0) : o * (x * x % p) ^ (n / 2) % p = o * x ^ n % p := by
  refine mm rfl ?_
  rw [pw_sq, show 2 * (n / 2) = n from by omega]
theorem pw_odd {o x p n : Nat} (h : n % 2 = 1) : o * x % p * (x * x % p) ^ (n / 2) % p = o * x ^ n % p := by
  have e : o * x ^ n = o * x * x ^ (2 * (n / 2)) := by
    conv => lhs; rw [show n = 1 + 2 * (n / 2) from by omega, Nat.pow_add, Nat.pow_one, ← Nat.mul_assoc]
  rw [e]
  exact mm (Nat.mod_mod _ _) (pw_sq x p (n / 2))
theorem small_mul {o x : Nat} (h1 : o < 997) (h2 : x < 997) : 0 ≤ (o : Int) * x ∧ (o : Int) * x ≤ 994009 := by
  have e : ((o * x : Nat) : Int) = (o : Int) * x := Int.natCast_mul o x
  have := Nat.mul_le_mul (Nat.le_of_lt h1) (Nat.le_of_lt h2)
  omega
theorem cast_mm (o x p : Nat) : (o : Int) * x % p = ((o * x % p : Nat) : Int) := by rw [Int.natCast_emod, Int.natCast_mul]

end Go.Proofs.Ytmknmjkcnlennaa
