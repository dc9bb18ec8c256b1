/- Exact laws of chapter 6 at every argument (written by wip/gen/ptany.py). -/
import Derived.Test.YtabcnkobojkdhaaPtLawP
import Derived.Test.YtabcnkobojkdhaaPtH
namespace Go.Proofs.Ytabcnkobojkdhaa
open Go.RowKit Go.Joins

theorem lawIsPointOf_any (a b : Int) (p : P3) (w : World) (_ : (-9223372036854775808 ≤ a ∧ a ≤ 9223372036854775807)) (_ : (-9223372036854775808 ≤ b ∧ b ≤ 9223372036854775807)) (_ : (-9223372036854775808 ≤ p.x ∧ p.x ≤ 9223372036854775807)) (_ : (-9223372036854775808 ≤ p.y ∧ p.y ≤ 9223372036854775807)) (_ : (-9223372036854775808 ≤ p.e ∧ p.e ≤ 9223372036854775807)) :
    Calls Try.prog 3 #[.agg #[.int .i64 a, .int .i64 b], .agg #[.int .i64 p.x, .int .i64 p.y, .int .i64 p.e]] w fun e w' => e = .returned (.bool true) ∧ Below w.heap.size w w' := by
  exact lawIsPointOf_core a b p.x p.y p.e w _ (fun W => isPtS_any a b p W) (fun W => isPtI_any a b p W)

theorem lawNegatePoint_any (a b : Int) (p : P3) (w : World) (_ : (-9223372036854775808 ≤ a ∧ a ≤ 9223372036854775807)) (_ : (-9223372036854775808 ≤ b ∧ b ≤ 9223372036854775807)) (_ : (-9223372036854775808 ≤ p.x ∧ p.x ≤ 9223372036854775807)) (_ : (-9223372036854775808 ≤ p.y ∧ p.y ≤ 9223372036854775807)) (_ : (-9223372036854775808 ≤ p.e ∧ p.e ≤ 9223372036854775807)) :
    Calls Try.prog 4 #[.agg #[.int .i64 a, .int .i64 b], .agg #[.int .i64 p.x, .int .i64 p.y, .int .i64 p.e]] w fun e w' => e = .returned (.bool true) ∧ Below w.heap.size w w' := by
  by_cases g : PtG a b p
  · exact lawNegatePoint_core a b p.x p.y p.e w _ _ _ _ (fun W => negS_yes a b p W g) (fun W => negI_yes a b p W g)
  · exact lawNegatePoint_core a b p.x p.y p.e w _ _ _ _ (fun W => negS_no a b p W g) (fun W => negI_no a b p W g)

theorem lawPointHeight_any (a b : Int) (p : P3) (w : World) (_ : (-9223372036854775808 ≤ a ∧ a ≤ 9223372036854775807)) (_ : (-9223372036854775808 ≤ b ∧ b ≤ 9223372036854775807)) (_ : (-9223372036854775808 ≤ p.x ∧ p.x ≤ 9223372036854775807)) (_ : (-9223372036854775808 ≤ p.y ∧ p.y ≤ 9223372036854775807)) (_ : (-9223372036854775808 ≤ p.e ∧ p.e ≤ 9223372036854775807)) :
    Calls Try.prog 6 #[.agg #[.int .i64 a, .int .i64 b], .agg #[.int .i64 p.x, .int .i64 p.y, .int .i64 p.e]] w fun e w' => e = .returned (.bool true) ∧ Below w.heap.size w w' := by
  by_cases g : PtG a b p
  · exact lawPointHeight_core a b p.x p.y p.e w _ _ (fun W => heightPS_yes a b p W g) (fun W => heightPI_yes a b p W g)
  · exact lawPointHeight_core a b p.x p.y p.e w _ _ (fun W => heightPS_no a b p W g) (fun W => heightPI_no a b p W g)
end Go.Proofs.Ytabcnkobojkdhaa
