/- Exact laws of chapter 6 at every argument (written by wip/gen/ptany.py). -/
import Derived.Test.YtabcnkobojkdhaaDoorPtLawA
import Derived.Test.YtabcnkobojkdhaaDoorPtLawB
import Derived.Test.YtabcnkobojkdhaaDoorPtLawC
import Derived.Test.YtabcnkobojkdhaaDoorPtLawD
import Derived.Test.YtabcnkobojkdhaaDoorPtMore
namespace Go.Proofs.YtabcnkobojkdhaaDoor
open Go.RowKit Go.Joins

theorem lawAddPoints_any (a b : Int) (p : P3) (q : P3) (w : World) (hL : Lim w) (_ : (-9223372036854775808 ≤ a ∧ a ≤ 9223372036854775807)) (_ : (-9223372036854775808 ≤ b ∧ b ≤ 9223372036854775807)) (_ : (-9223372036854775808 ≤ p.x ∧ p.x ≤ 9223372036854775807)) (_ : (-9223372036854775808 ≤ p.y ∧ p.y ≤ 9223372036854775807)) (_ : (-9223372036854775808 ≤ p.e ∧ p.e ≤ 9223372036854775807)) (_ : (-9223372036854775808 ≤ q.x ∧ q.x ≤ 9223372036854775807)) (_ : (-9223372036854775808 ≤ q.y ∧ q.y ≤ 9223372036854775807)) (_ : (-9223372036854775808 ≤ q.e ∧ q.e ≤ 9223372036854775807)) :
    Calls Tryd.prog 3 #[.agg #[.int .i64 a, .int .i64 b], .agg #[.int .i64 p.x, .int .i64 p.y, .int .i64 p.e], .agg #[.int .i64 q.x, .int .i64 q.y, .int .i64 q.e]] w fun e w' => e = .returned (.bool true) ∧ Below w.heap.size w w' := by
  rcases lawAdd_two (a := a) (b := b) (p := p) (q := q) with ⟨g, g'⟩ | g | ⟨g, g'⟩
  · exact lawAddPoints_core a b p.x p.y p.e q.x q.y q.e w hL _ _ _ _ (fun W => addS_on W g g') (fun W hL => addI_on W hL g g')
  · exact lawAddPoints_core a b p.x p.y p.e q.x q.y q.e w hL _ _ _ _ (fun W => addS_off0 a b p q W g) (fun W _ => addI_off0 a b p q W g)
  · exact lawAddPoints_core a b p.x p.y p.e q.x q.y q.e w hL _ _ _ _ (fun W => addS_off1 a b p q W g g') (fun W _ => addI_off1 a b p q W g g')

theorem lawSlopeOf_any (a b : Int) (p : P3) (q : P3) (w : World) (hL : Lim w) (_ : (-9223372036854775808 ≤ a ∧ a ≤ 9223372036854775807)) (_ : (-9223372036854775808 ≤ b ∧ b ≤ 9223372036854775807)) (_ : (-9223372036854775808 ≤ p.x ∧ p.x ≤ 9223372036854775807)) (_ : (-9223372036854775808 ≤ p.y ∧ p.y ≤ 9223372036854775807)) (_ : (-9223372036854775808 ≤ p.e ∧ p.e ≤ 9223372036854775807)) (_ : (-9223372036854775808 ≤ q.x ∧ q.x ≤ 9223372036854775807)) (_ : (-9223372036854775808 ≤ q.y ∧ q.y ≤ 9223372036854775807)) (_ : (-9223372036854775808 ≤ q.e ∧ q.e ≤ 9223372036854775807)) :
    Calls Tryd.prog 9 #[.agg #[.int .i64 a, .int .i64 b], .agg #[.int .i64 p.x, .int .i64 p.y, .int .i64 p.e], .agg #[.int .i64 q.x, .int .i64 q.y, .int .i64 q.e]] w fun e w' => e = .returned (.bool true) ∧ Below w.heap.size w w' := by
  rcases lawAdd_two (a := a) (b := b) (p := p) (q := q) with ⟨g, g'⟩ | g | ⟨g, g'⟩
  · exact lawSlopeOf_core a b p.x p.y p.e q.x q.y q.e w hL _ _ _ (fun W => slopeS_on W g g') (fun W hL => slopeI_on W hL g g')
  · exact lawSlopeOf_core a b p.x p.y p.e q.x q.y q.e w hL _ _ _ (fun W => slopeS_off0 a b p q W g) (fun W _ => slopeI_off0 a b p q W g)
  · exact lawSlopeOf_core a b p.x p.y p.e q.x q.y q.e w hL _ _ _ (fun W => slopeS_off1 a b p q W g g') (fun W _ => slopeI_off1 a b p q W g g')

theorem lawDoublePoint_any (a b : Int) (p : P3) (w : World) (hL : Lim w) (_ : (-9223372036854775808 ≤ a ∧ a ≤ 9223372036854775807)) (_ : (-9223372036854775808 ≤ b ∧ b ≤ 9223372036854775807)) (_ : (-9223372036854775808 ≤ p.x ∧ p.x ≤ 9223372036854775807)) (_ : (-9223372036854775808 ≤ p.y ∧ p.y ≤ 9223372036854775807)) (_ : (-9223372036854775808 ≤ p.e ∧ p.e ≤ 9223372036854775807)) :
    Calls Tryd.prog 4 #[.agg #[.int .i64 a, .int .i64 b], .agg #[.int .i64 p.x, .int .i64 p.y, .int .i64 p.e]] w fun e w' => e = .returned (.bool true) ∧ Below w.heap.size w w' := by
  by_cases g : PtG a b p
  · exact lawDoublePoint_core a b p.x p.y p.e w hL _ _ _ _ (fun W => dblS_c a b p W g _ _ _ _ (fun W => ptAddS_any p p W ⟨g.1.1, g.1.2.1⟩ g.2 g.2)) (fun W hL => dblI_c a b p W hL _ _ _ _ (fun W hL => addI_on W hL g g))
  · exact lawDoublePoint_core a b p.x p.y p.e w hL _ _ _ _ (fun W => dblS_off a b p W g) (fun W hL => dblI_c a b p W hL _ _ _ _ (fun W _ => addI_off0 a b p p W g))

theorem lawAreCollinear_any (a b : Int) (p : P3) (q : P3) (r : P3) (w : World) (hL : Lim w) (_ : (-9223372036854775808 ≤ a ∧ a ≤ 9223372036854775807)) (_ : (-9223372036854775808 ≤ b ∧ b ≤ 9223372036854775807)) (_ : (-9223372036854775808 ≤ p.x ∧ p.x ≤ 9223372036854775807)) (_ : (-9223372036854775808 ≤ p.y ∧ p.y ≤ 9223372036854775807)) (_ : (-9223372036854775808 ≤ p.e ∧ p.e ≤ 9223372036854775807)) (_ : (-9223372036854775808 ≤ q.x ∧ q.x ≤ 9223372036854775807)) (_ : (-9223372036854775808 ≤ q.y ∧ q.y ≤ 9223372036854775807)) (_ : (-9223372036854775808 ≤ q.e ∧ q.e ≤ 9223372036854775807)) (_ : (-9223372036854775808 ≤ r.x ∧ r.x ≤ 9223372036854775807)) (_ : (-9223372036854775808 ≤ r.y ∧ r.y ≤ 9223372036854775807)) (_ : (-9223372036854775808 ≤ r.e ∧ r.e ≤ 9223372036854775807)) :
    Calls Tryd.prog 8 #[.agg #[.int .i64 a, .int .i64 b], .agg #[.int .i64 p.x, .int .i64 p.y, .int .i64 p.e], .agg #[.int .i64 q.x, .int .i64 q.y, .int .i64 q.e], .agg #[.int .i64 r.x, .int .i64 r.y, .int .i64 r.e]] w fun e w' => e = .returned (.bool true) ∧ Below w.heap.size w w' := by
  rcases lawAdd_two (a := a) (b := b) (p := p) (q := q) with ⟨g, g'⟩ | g | ⟨g, g'⟩
  · have c1 := fun W (hL : Lim W) => addI_on W hL g g'
    have c2 := fun W => ptAddS_any p q W ⟨g.1.1, g.1.2.1⟩ g.2 g'.2
    cases ha : addP a p q with
    | none =>
      rw [ha] at c1 c2
      by_cases g2 : PtG a b r
      · exact lawAreCollinear_core a b p.x p.y p.e q.x q.y q.e r.x r.y r.e w hL _ _ (fun W => colS_no a b p q r W g g' g2 _ _ _ c2) (fun W hL => colI_no a b p q r W hL _ _ _ c1)
      · exact lawAreCollinear_core a b p.x p.y p.e q.x q.y q.e r.x r.y r.e w hL _ _ (fun W => colS_off2 a b p q r W g g' g2) (fun W hL => colI_no a b p q r W hL _ _ _ c1)
    | some s =>
      rw [ha] at c1 c2
      by_cases g2 : PtG a b r
      · exact lawAreCollinear_core a b p.x p.y p.e q.x q.y q.e r.x r.y r.e w hL _ _ (fun W => colS_yes a b p q r s W g g' g2 c2) (fun W hL => colI_yes a b p q r s W hL g2 c1)
      · exact lawAreCollinear_core a b p.x p.y p.e q.x q.y q.e r.x r.y r.e w hL _ _ (fun W => colS_off2 a b p q r W g g' g2) (fun W hL => colI_off a b p q r s W hL g2 c1)
  · exact lawAreCollinear_core a b p.x p.y p.e q.x q.y q.e r.x r.y r.e w hL _ _ (fun W => colS_off0 a b p q r W g) (fun W hL => colI_no a b p q r W hL _ _ _ (fun W _ => addI_off0 a b p q W g))
  · exact lawAreCollinear_core a b p.x p.y p.e q.x q.y q.e r.x r.y r.e w hL _ _ (fun W => colS_off1 a b p q r W g g') (fun W hL => colI_no a b p q r W hL _ _ _ (fun W _ => addI_off1 a b p q W g g'))
end Go.Proofs.YtabcnkobojkdhaaDoor
