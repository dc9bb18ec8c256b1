/- Exact laws of chapter 6 at every argument (written by wip/gen/ptany.py). -/
import Derived.Test.YtabcnkobojkdhaaDoorPtLawB
import Derived.Test.YtabcnkobojkdhaaDoorPtOrd
namespace Go.Proofs.YtabcnkobojkdhaaDoor
open Go.RowKit Go.Joins

theorem lawOrderOfPoint_any (a b : Int) (p : P3) (w : World) (hL : Lim w) (_ : (-9223372036854775808 ≤ a ∧ a ≤ 9223372036854775807)) (_ : (-9223372036854775808 ≤ b ∧ b ≤ 9223372036854775807)) (_ : (-9223372036854775808 ≤ p.x ∧ p.x ≤ 9223372036854775807)) (_ : (-9223372036854775808 ≤ p.y ∧ p.y ≤ 9223372036854775807)) (_ : (-9223372036854775808 ≤ p.e ∧ p.e ≤ 9223372036854775807)) :
    Calls Tryd.prog 7 #[.agg #[.int .i64 a, .int .i64 b], .agg #[.int .i64 p.x, .int .i64 p.y, .int .i64 p.e]] w fun e w' => e = .returned (.bool true) ∧ Below w.heap.size w w' := by
  by_cases g : PtG a b p
  · have hc := And.intro g.1.1 g.1.2.1
    exact lawOrderOfPoint_core a b p.x p.y p.e w hL _ _ (fun W => ordS_c a b p W g _ _ (fun W => ptOrder_c a b p W (fun k hk W => ptTimes_any p k W (by omega) hc g.2) _ rfl)) (fun W hL => ordI_c a b p W hL hL.lt (fun s j hs W hL => addI_on W hL ⟨g.1, mult_on hc g.2 hs⟩ g) (fun s s' j hs hq hz k => hz ((addP_on hc (mult_on hc g.2 hs) g.2 hq).inf k)) _ rfl)
  · refine lawOrderOfPoint_core a b p.x p.y p.e w hL _ _ (fun W => ordS_off a b p W g) (fun W hL => ordI_off a b p W hL (fun W _ => ?_))
    by_cases ge : EcG a b
    · exact addI_off1 a b .zero p W ⟨ge, .inl rfl⟩ g
    · exact addI_off0 a b .zero p W (fun k => ge k.1)
end Go.Proofs.YtabcnkobojkdhaaDoor
