/- The law of GroupShape (written by wip/gen/fmgs.py). -/
import Derived.Test.YtbgoiflkpefckaaFmGs
import Derived.Test.YtbgoiflkpefckaaFmGsI
import Derived.Test.YtbgoiflkpefckaaFmLawA
namespace Go.Proofs.Ytbgoiflkpefckaa
open Go.RowKit Go.Joins

theorem lawGroupShape_any (a b z1 : Int) (w : World) (_ha : -9223372036854775808 ≤ a ∧ a ≤ 9223372036854775807) (_hb : -9223372036854775808 ≤ b ∧ b ≤ 9223372036854775807) (_h1 : -9223372036854775808 ≤ z1 ∧ z1 ≤ 9223372036854775807) :
    Calls Try.prog 11 #[.agg #[.int .i64 a, .int .i64 b], .int .i64 z1] w fun e w' => e = .returned (.bool true) ∧ Below w.heap.size w w' := by
  by_cases g : Gd a b z1 199
  · obtain ⟨p, rfl, G, hp⟩ := g
    exact lawGroupShape_core a b p w _ _ true (fun W => gsS_yes G hp W) (fun W => gsI_yes G hp W)
  · exact lawGroupShape_core a b z1 w 0 0 false (fun W => gsS_no a b z1 W g) (fun W => gsI_no a b z1 W g)
end Go.Proofs.Ytbgoiflkpefckaa
