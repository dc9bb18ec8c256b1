/- RootCells: at every argument (own work). -/
import Derived.Test.YtjjdjhehdobmnaaCiLawRow
namespace Go.Proofs.Ytjjdjhehdobmnaa
open Go.RowKit Go.Joins

theorem lawRootCells_any (a b c d : Int) (w : World) (_ha : (-9223372036854775808 ≤ a ∧ a ≤ 9223372036854775807)) (_hb : (-9223372036854775808 ≤ b ∧ b ≤ 9223372036854775807)) (_hc : (-9223372036854775808 ≤ c ∧ c ≤ 9223372036854775807)) (_hd : (-9223372036854775808 ≤ d ∧ d ≤ 9223372036854775807)) :
    Calls Try.prog 7 #[.agg #[.int .i64 a, .int .i64 b, .int .i64 c, .int .i64 d]] w fun e w' => e = .returned (.bool true) ∧ Below w.heap.size w w' := by
  by_cases g : CuG a b c d
  · exact lawRootCells_core a b c d w (CLs a b c d 2003) (by have := CLs_len a b c d 2003; omega) true (fun W => cellsS_yes a b c d W g) (fun W => cellsI_yes a b c d W g)
  · exact lawRootCells_core a b c d w [] (by simp) false (fun W => cellsS_bad a b c d W g) (fun W => cellsI_bad a b c d W g)
end Go.Proofs.Ytjjdjhehdobmnaa
