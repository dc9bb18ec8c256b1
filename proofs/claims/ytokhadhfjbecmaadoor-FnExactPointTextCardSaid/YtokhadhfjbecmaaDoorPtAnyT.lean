/- Exact laws of chapter 6 at every argument (written by wip/gen/ptany.py). -/
import Derived.Test.YtokhadhfjbecmaaDoorPtLawT
import Derived.Test.YtokhadhfjbecmaaDoorPtTx
namespace Go.Proofs.YtokhadhfjbecmaaDoor
open Go.RowKit Go.Joins

theorem lawPointText_any (a b : Int) (p : P3) (w : World) (hL : Env w) (_ : (-9223372036854775808 ≤ a ∧ a ≤ 9223372036854775807)) (_ : (-9223372036854775808 ≤ b ∧ b ≤ 9223372036854775807)) (_ : (-9223372036854775808 ≤ p.x ∧ p.x ≤ 9223372036854775807)) (_ : (-9223372036854775808 ≤ p.y ∧ p.y ≤ 9223372036854775807)) (_ : (-9223372036854775808 ≤ p.e ∧ p.e ≤ 9223372036854775807)) :
    Calls Tryd.prog 3 #[.agg #[.int .i64 a, .int .i64 b], .agg #[.int .i64 p.x, .int .i64 p.y, .int .i64 p.e]] w fun e w' => e = .returned (.bool true) ∧ Below w.heap.size w w' := by
  by_cases g : PtG a b p
  · exact lawPointText_core a b p.x p.y p.e w hL _ _ (fun W => ptextS_yes a b p W g) (fun W hL => ptextI_yes W hL g)
  · exact lawPointText_core a b p.x p.y p.e w hL _ _ (fun W => ptextS_no a b p W g) (fun W _ => ptextI_no a b p W g)
end Go.Proofs.YtokhadhfjbecmaaDoor
