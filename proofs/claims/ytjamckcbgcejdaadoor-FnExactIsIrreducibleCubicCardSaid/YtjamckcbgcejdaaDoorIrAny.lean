/- IsIrreducibleCubic: at every argument (own work). -/
import Derived.Test.YtjamckcbgcejdaaDoorIrLaw
namespace Go.Proofs.YtjamckcbgcejdaaDoor
open Go.RowKit Go.Joins

theorem lawIsIrreducibleCubic_any (a b c d : Int) (w : World) (hL : Lim w) (_ha : (-9223372036854775808 ≤ a ∧ a ≤ 9223372036854775807)) (_hb : (-9223372036854775808 ≤ b ∧ b ≤ 9223372036854775807)) (_hc : (-9223372036854775808 ≤ c ∧ c ≤ 9223372036854775807)) (_hd : (-9223372036854775808 ≤ d ∧ d ≤ 9223372036854775807)) :
    Calls Tryd.prog 6 #[.agg #[.int .i64 a, .int .i64 b, .int .i64 c, .int .i64 d]] w fun e w' => e = .returned (.bool true) ∧ Below w.heap.size w w' := by
  by_cases g : CuG a b c d
  · obtain ⟨M, hM⟩ := rl_exists g.1 g.2.1 g.2.2.1 g.2.2.2.1 g.2.2.2.2
    exact lawIsIrreducibleCubic_core a b c d w hL ((M.length : Int) == 0) true (fun W => irrS_yes a b c d W g M hM _ rfl) (fun W hL => irrI_any a b c d W M true _ (fun W hL => rootsI_yes a b c d W hL g M hM) hL (Bool.true_and _))
  · exact lawIsIrreducibleCubic_core a b c d w hL false false (fun W => irrS_bad a b c d W g) (fun W hL => irrI_any a b c d W [] false _ (fun W _ => rootsI_bad a b c d W g) hL rfl)
end Go.Proofs.YtjamckcbgcejdaaDoor
