/- IsFraction: the model's and the program's, and the law. -/
import Derived.Test.YteolfmhihnpjpaaDoorFrGood
import Derived.Test.YteolfmhihnpjpaaDoorFrLIsFraction
namespace Go.Proofs.YteolfmhihnpjpaaDoor
open Go.RowKit Go.Joins

set_option maxHeartbeats 1000000 in
theorem isFractionS_yes (p0 q0 : Int) (w : World) (g0 : FrG p0 q0) : Calls Tryd.prog 15 #[.agg #[.int .i64 p0, .int .i64 q0]] w (GivesB w true) := by
  have h := Below.refl w.heap.size w
  have hA := below_alloc1 w (.cells #[.int .i64 p0, .int .i64 q0] 25)
  replace h := Below.step h hA
  have hx0 := Box.new w 25 #[.int .i64 p0, .int .i64 q0]
  clear hA
  go_enter Tryd.func15, Tryd.ntmps15
  go_wp2_with fail
  refine (frGood_yes p0 q0 _ g0).mono ?_
  rintro e w1 ⟨rfl, hb⟩
  replace h := Below.step h hb
  replace hx0 := hx0.kept hb
  clear hb
  obtain ⟨ahx0, bhx0⟩ := hx0.two
  have lhx0 := hx0.lt
  go_wp2_with fail
  go_ret
  exact ⟨rfl, h⟩

set_option maxHeartbeats 1000000 in
theorem isFractionS_no (p0 q0 : Int) (w : World) (g0 : ¬ FrG p0 q0) : Calls Tryd.prog 15 #[.agg #[.int .i64 p0, .int .i64 q0]] w (GivesB w false) := by
  have h := Below.refl w.heap.size w
  have hA := below_alloc1 w (.cells #[.int .i64 p0, .int .i64 q0] 25)
  replace h := Below.step h hA
  have hx0 := Box.new w 25 #[.int .i64 p0, .int .i64 q0]
  clear hA
  go_enter Tryd.func15, Tryd.ntmps15
  go_wp2_with fail
  refine (frGood_no p0 q0 _ g0).mono ?_
  rintro e w1 ⟨rfl, hb⟩
  replace h := Below.step h hb
  replace hx0 := hx0.kept hb
  clear hb
  obtain ⟨ahx0, bhx0⟩ := hx0.two
  have lhx0 := hx0.lt
  go_wp2_with fail
  go_ret
  exact ⟨rfl, h⟩

theorem lawIsFraction_any (p0 q0 : Int) (w : World) (hL : Lim w) (_ : -9223372036854775808 ≤ p0 ∧ p0 ≤ 9223372036854775807) (_ : -9223372036854775808 ≤ q0 ∧ q0 ≤ 9223372036854775807) :
    Calls Tryd.prog 3 #[.agg #[.int .i64 p0, .int .i64 q0]] w fun e w' => e = .returned (.bool true) ∧ Below w.heap.size w w' := by
  by_cases g : FrG p0 q0
  · exact lawIsFraction_core p0 q0 w hL true (fun W => isFractionS_yes p0 q0 W g) (fun W hL => isFractionI_yes p0 q0 W hL g)
  · exact lawIsFraction_core p0 q0 w hL false (fun W => isFractionS_no p0 q0 W g) (fun W hL => isFractionI_no p0 q0 W hL g)
end Go.Proofs.YteolfmhihnpjpaaDoor
