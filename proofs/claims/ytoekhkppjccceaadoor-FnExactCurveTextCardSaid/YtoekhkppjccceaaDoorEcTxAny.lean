/- CurveText at every argument (own work). -/
import Derived.Test.YtoekhkppjccceaaDoorEcTxLaw
namespace Go.Proofs.YtoekhkppjccceaaDoor
open Go.RowKit Go.Joins

theorem lawCurveText_any (a b : Int) (w : World) (hL : Pow w) (_ha : (-9223372036854775808 ≤ a ∧ a ≤ 9223372036854775807)) (_hb : (-9223372036854775808 ≤ b ∧ b ≤ 9223372036854775807)) :
    Calls Tryd.prog 3 #[.agg #[.int .i64 a, .int .i64 b]] w fun e w' => e = .returned (.bool true) ∧ Below w.heap.size w w' := by
  by_cases g : EcG a b
  · exact lawCurveText_core a b w hL _ _ (fun W => ctextS_yes a b _ W g rfl) (fun W h => ctextI_yes a b _ W h g rfl)
  · exact lawCurveText_core a b w hL _ _ (fun W => ctextS_bad a b W g) (fun W _ => ctextI_bad a b W g)
end Go.Proofs.YtoekhkppjccceaaDoor
