/- CubicAtFraction, FactorOut: at every argument (own work). -/
import Derived.Test.YtjamckcbgcejdaaDoorCfLaws
namespace Go.Proofs.YtjamckcbgcejdaaDoor
open Go.RowKit Go.Joins

theorem lawCubicAtFraction_any (a b c d p q : Int) (w : World) (hL : Lim w) (_ha : (-9223372036854775808 ≤ a ∧ a ≤ 9223372036854775807)) (_hb : (-9223372036854775808 ≤ b ∧ b ≤ 9223372036854775807)) (_hc : (-9223372036854775808 ≤ c ∧ c ≤ 9223372036854775807)) (_hd : (-9223372036854775808 ≤ d ∧ d ≤ 9223372036854775807)) (_hp : (-9223372036854775808 ≤ p ∧ p ≤ 9223372036854775807)) (_hq : (-9223372036854775808 ≤ q ∧ q ≤ 9223372036854775807)) :
    Calls Tryd.prog 3 #[.agg #[.int .i64 a, .int .i64 b, .int .i64 c, .int .i64 d], .agg #[.int .i64 p, .int .i64 q]] w fun e w' => e = .returned (.bool true) ∧ Below w.heap.size w w' := by
  exact lawCubicAtFraction_core a b c d p q w hL _ _ (fun W => cfAtS_any a b c d p q W) (fun W hL => cfAtI_any a b c d p q W hL)
theorem lawFactorOut_any (a b c d p q : Int) (w : World) (hL : Lim w) (_ha : (-9223372036854775808 ≤ a ∧ a ≤ 9223372036854775807)) (_hb : (-9223372036854775808 ≤ b ∧ b ≤ 9223372036854775807)) (_hc : (-9223372036854775808 ≤ c ∧ c ≤ 9223372036854775807)) (_hd : (-9223372036854775808 ≤ d ∧ d ≤ 9223372036854775807)) (_hp : (-9223372036854775808 ≤ p ∧ p ≤ 9223372036854775807)) (_hq : (-9223372036854775808 ≤ q ∧ q ≤ 9223372036854775807)) :
    Calls Tryd.prog 5 #[.agg #[.int .i64 a, .int .i64 b, .int .i64 c, .int .i64 d], .agg #[.int .i64 p, .int .i64 q]] w fun e w' => e = .returned (.bool true) ∧ Below w.heap.size w w' := by
  by_cases k : CfRoot a b c d p q
  · obtain ⟨x, y, z, h1, h2, h3, h4⟩ := cu_factor (show 0 < q by have := k.2.1.1; omega) k.2.1.2.2.2.2 k.2.2
    exact lawFactorOut_core a b c d p q w hL _ _ _ _ (fun W => footS_yes a b c d p q W k x y z h1 h2 h3) (fun W hL => footI_yes a b c d p q W hL k x y z h1 h2 h3)
  · exact lawFactorOut_core a b c d p q w hL _ _ _ _ (fun W => footS_no a b c d p q W k) (fun W hL => footI_no a b c d p q W hL k)
end Go.Proofs.YtjamckcbgcejdaaDoor
