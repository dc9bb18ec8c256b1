/- IsPrimeNumber, ResidueOf: the laws. -/
import Derived.Test.YtbgoiflkpefckaaRsRes
import Derived.Test.YtbgoiflkpefckaaRsLaws
namespace Go.Proofs.Ytbgoiflkpefckaa
open Go.RowKit Go.Joins

/-- The residue as a natural number. -/
theorem res_nat (a : Int) {p : Nat} (hp : 2 ≤ p) : ∃ r : Nat, (r : Int) = a % p ∧ r < p := by
  have h1 : 0 ≤ a % (p : Int) := Int.emod_nonneg _ (by omega)
  have h2 : a % (p : Int) < p := Int.emod_lt_of_pos _ (by omega)
  exact ⟨(a % (p : Int)).toNat, by omega, by omega⟩

end Go.Proofs.Ytbgoiflkpefckaa
