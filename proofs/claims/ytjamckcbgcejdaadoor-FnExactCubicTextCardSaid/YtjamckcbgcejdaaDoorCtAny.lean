/- CubicText: at every argument (own work). -/
import Derived.Test.YtjamckcbgcejdaaDoorCtLaw
namespace Go.Proofs.YtjamckcbgcejdaaDoor
open Go.RowKit Go.Joins

theorem lawCubicText_any (a b c d : Int) (w : World) (hL : Pow w) (_ha : (-9223372036854775808 ≤ a ∧ a ≤ 9223372036854775807)) (_hb : (-9223372036854775808 ≤ b ∧ b ≤ 9223372036854775807)) (_hc : (-9223372036854775808 ≤ c ∧ c ≤ 9223372036854775807)) (_hd : (-9223372036854775808 ≤ d ∧ d ≤ 9223372036854775807)) :
    Calls Tryd.prog 7 #[.agg #[.int .i64 a, .int .i64 b, .int .i64 c, .int .i64 d]] w fun e w' => e = .returned (.bool true) ∧ Below w.heap.size w w' := by
  by_cases g : CuG a b c d
  · exact lawCubicText_core a b c d w hL _ _ (fun W => cuTextS_yes a b c d W g) (fun W h => cuTextI_yes a b c d W h g)
  · exact lawCubicText_core a b c d w hL _ _ (fun W => cuTextS_bad a b c d W g) (fun W _ => cuTextI_bad a b c d W g)
end Go.Proofs.YtjamckcbgcejdaaDoor
