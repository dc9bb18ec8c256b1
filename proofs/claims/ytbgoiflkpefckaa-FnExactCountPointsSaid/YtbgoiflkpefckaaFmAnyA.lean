/- The laws of IsGoodPrime and CountPoints at all arguments (own work). -/
import Derived.Test.YtbgoiflkpefckaaFmLawA
import Derived.Test.YtbgoiflkpefckaaFmC
namespace Go.Proofs.Ytbgoiflkpefckaa
open Go.RowKit Go.Joins

theorem lawIsGoodPrime_any (a b z1 : Int) (w : World) (_ha : -9223372036854775808 ≤ a ∧ a ≤ 9223372036854775807) (_hb : -9223372036854775808 ≤ b ∧ b ≤ 9223372036854775807) (_h1 : -9223372036854775808 ≤ z1 ∧ z1 ≤ 9223372036854775807) :
    Calls Try.prog 3 #[.agg #[.int .i64 a, .int .i64 b], .int .i64 z1] w fun e w' => e = .returned (.bool true) ∧ Below w.heap.size w w' := by
  obtain ⟨B, ok, h1, h2, _, _⟩ := isGood_all a b z1
  exact lawIsGoodPrime_core a b z1 w B ok h1 h2
theorem lawCountPoints_any (a b z1 : Int) (w : World) (_ha : -9223372036854775808 ≤ a ∧ a ≤ 9223372036854775807) (_hb : -9223372036854775808 ≤ b ∧ b ≤ 9223372036854775807) (_h1 : -9223372036854775808 ≤ z1 ∧ z1 ≤ 9223372036854775807) :
    Calls Try.prog 4 #[.agg #[.int .i64 a, .int .i64 b], .int .i64 z1] w fun e w' => e = .returned (.bool true) ∧ Below w.heap.size w w' := by
  by_cases g : Gd a b z1 997
  · obtain ⟨p, rfl, G, _⟩ := g
    exact lawCountPoints_core a b p w _ true (fun W => countS_yes G W) (fun W => countI_yes G W)
  · exact lawCountPoints_core a b z1 w 0 false (fun W => countS_no a b z1 W g) (fun W => countI_no a b z1 W g)
end Go.Proofs.Ytbgoiflkpefckaa
