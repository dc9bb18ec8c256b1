/- The law of CountOrders (written by wip/gen/fmco.py). -/
import Derived.Test.YtbgoiflkpefckaaFmCo
import Derived.Test.YtbgoiflkpefckaaFmLawA
namespace Go.Proofs.Ytbgoiflkpefckaa
open Go.RowKit Go.Joins

theorem lawCountOrders_any (a b z1 z2 : Int) (w : World) (_ha : -9223372036854775808 ≤ a ∧ a ≤ 9223372036854775807) (_hb : -9223372036854775808 ≤ b ∧ b ≤ 9223372036854775807) (_h1 : -9223372036854775808 ≤ z1 ∧ z1 ≤ 9223372036854775807) (_h2 : -9223372036854775808 ≤ z2 ∧ z2 ≤ 9223372036854775807) :
    Calls Try.prog 12 #[.agg #[.int .i64 a, .int .i64 b], .int .i64 z1, .int .i64 z2] w fun e w' => e = .returned (.bool true) ∧ Below w.heap.size w w' := by
  by_cases g : Gd a b z1 199
  · obtain ⟨p, rfl, G, hp⟩ := g
    by_cases h0 : z2 < 1
    · exact lawCountOrders_core a b p z2 w 0 false (fun W => coS_off G hp z2 W (.inl h0)) (fun W => coI_lo G hp z2 W h0)
    · by_cases h9 : 1000 < z2
      · exact lawCountOrders_core a b p z2 w 0 false (fun W => coS_off G hp z2 W (.inr h9)) (fun W => coI_hi G hp z2 W h0 h9)
      · obtain ⟨n, rfl⟩ : ∃ n : Nat, z2 = n := ⟨z2.toNat, by omega⟩
        exact lawCountOrders_core a b p n w _ true (fun W => coS_yes G hp W n (by omega) (by omega)) (fun W => coI_yes G hp W n (by omega) (by omega))
  · exact lawCountOrders_core a b z1 z2 w 0 false (fun W => coS_no a b z1 z2 W g) (fun W => coI_no a b z1 z2 W g)
end Go.Proofs.Ytbgoiflkpefckaa
