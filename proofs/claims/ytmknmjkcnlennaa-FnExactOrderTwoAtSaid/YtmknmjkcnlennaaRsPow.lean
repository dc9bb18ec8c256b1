/- PowerOf, InverseOf, SquareSymbol: the model's and the program's, and their laws. -/
import Derived.Test.YtmknmjkcnlennaaRsOne
namespace Go.Proofs.Ytmknmjkcnlennaa
open Go.RowKit Go.Joins

theorem nat_IsA {r : Nat} (h : r < 997) : IsA (r : Int) := ⟨by omega, by omega⟩
theorem nat_mod {r p : Nat} (h : r < p) : (r : Int) = (r : Int) % p := by rw [Int.emod_eq_of_lt] <;> omega

/-- What the square symbol is, from the power. -/
def sym (R p : Nat) : Int := if R = p - 1 then -1 else R

end Go.Proofs.Ytmknmjkcnlennaa
