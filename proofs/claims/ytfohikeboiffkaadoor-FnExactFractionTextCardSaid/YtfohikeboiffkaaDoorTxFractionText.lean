/- The law of FractionText. -/
import Derived.Test.YtfohikeboiffkaaDoorTxLFractionText
namespace Go.Proofs.YtfohikeboiffkaaDoor
open Go.RowKit Go.Joins

theorem lawFractionText_any (p0 q0 : Int) (w : World) (hL : Env w) (_ : -9223372036854775808 ≤ p0 ∧ p0 ≤ 9223372036854775807) (_ : -9223372036854775808 ≤ q0 ∧ q0 ≤ 9223372036854775807) :
    Calls Tryd.prog 3 #[.agg #[.int .i64 p0, .int .i64 q0]] w fun e w' => e = .returned (.bool true) ∧ Below w.heap.size w w' := by
  by_cases g : FrG p0 q0
  · exact lawFractionText_core p0 q0 w hL _ true (fun W => textS_yes p0 q0 W g) (fun W hL => textI_yes p0 q0 W hL.1 hL.2 g)
  · exact lawFractionText_core p0 q0 w hL _ false (fun W => textS_no p0 q0 W g) (fun W hL => textI_no p0 q0 W hL.1 g)
end Go.Proofs.YtfohikeboiffkaaDoor
