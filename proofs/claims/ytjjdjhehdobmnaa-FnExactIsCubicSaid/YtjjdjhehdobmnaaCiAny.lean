/- The exact laws of chapter 4 but those with fractions: at every argument (own work). -/
import Derived.Test.YtjjdjhehdobmnaaCiLaws
import Derived.Test.YtjjdjhehdobmnaaCiShiftI
namespace Go.Proofs.Ytjjdjhehdobmnaa
open Go.RowKit Go.Joins


theorem lawIsCubic_any (a b c d : Int) (w : World) (_ha : (-9223372036854775808 ≤ a ∧ a ≤ 9223372036854775807)) (_hb : (-9223372036854775808 ≤ b ∧ b ≤ 9223372036854775807)) (_hc : (-9223372036854775808 ≤ c ∧ c ≤ 9223372036854775807)) (_hd : (-9223372036854775808 ≤ d ∧ d ≤ 9223372036854775807)) :
    Calls Try.prog 3 #[.agg #[.int .i64 a, .int .i64 b, .int .i64 c, .int .i64 d]] w fun e w' => e = .returned (.bool true) ∧ Below w.heap.size w w' := by
  exact lawIsCubic_core a b c d w _ (fun W => isCubicS_any a b c d W) (fun W => isCubicI_any a b c d W)

theorem lawCubicAt_any (a b c d z1 : Int) (w : World) (_ha : (-9223372036854775808 ≤ a ∧ a ≤ 9223372036854775807)) (_hb : (-9223372036854775808 ≤ b ∧ b ≤ 9223372036854775807)) (_hc : (-9223372036854775808 ≤ c ∧ c ≤ 9223372036854775807)) (_hd : (-9223372036854775808 ≤ d ∧ d ≤ 9223372036854775807)) (_h1 : (-9223372036854775808 ≤ z1 ∧ z1 ≤ 9223372036854775807)) :
    Calls Try.prog 4 #[.agg #[.int .i64 a, .int .i64 b, .int .i64 c, .int .i64 d], .int .i64 z1] w fun e w' => e = .returned (.bool true) ∧ Below w.heap.size w w' := by
  by_cases g : CuG a b c d
  · by_cases h : z1 < -10000 ∨ 10000 < z1
    · exact lawCubicAt_core a b c d z1 w _ _ (fun W => cubicAtS_out a b c d z1 W g h) (fun W => cubicAtI_out a b c d z1 W g h)
    · exact lawCubicAt_core a b c d z1 w _ _ (fun W => cubicAtS_yes a b c d z1 W g (by omega) (by omega) _ rfl) (fun W => cubicAtI_yes a b c d z1 W g (by omega) (by omega) _ rfl)
  · exact lawCubicAt_core a b c d z1 w _ _ (fun W => cubicAtS_bad a b c d z1 W g) (fun W => cubicAtI_bad a b c d z1 W g)

theorem lawCubicDiscriminant_any (a b c d : Int) (w : World) (_ha : (-9223372036854775808 ≤ a ∧ a ≤ 9223372036854775807)) (_hb : (-9223372036854775808 ≤ b ∧ b ≤ 9223372036854775807)) (_hc : (-9223372036854775808 ≤ c ∧ c ≤ 9223372036854775807)) (_hd : (-9223372036854775808 ≤ d ∧ d ≤ 9223372036854775807)) :
    Calls Try.prog 5 #[.agg #[.int .i64 a, .int .i64 b, .int .i64 c, .int .i64 d]] w fun e w' => e = .returned (.bool true) ∧ Below w.heap.size w w' := by
  by_cases g : CuG a b c d
  · exact lawCubicDiscriminant_core a b c d w _ _ (fun W => discS_yes a b c d W g _ rfl) (fun W => discI_yes a b c d W g _ rfl)
  · exact lawCubicDiscriminant_core a b c d w _ _ (fun W => discS_bad a b c d W g) (fun W => discI_bad a b c d W g)

theorem lawRealRootCount_any (a b c d : Int) (w : World) (_ha : (-9223372036854775808 ≤ a ∧ a ≤ 9223372036854775807)) (_hb : (-9223372036854775808 ≤ b ∧ b ≤ 9223372036854775807)) (_hc : (-9223372036854775808 ≤ c ∧ c ≤ 9223372036854775807)) (_hd : (-9223372036854775808 ≤ d ∧ d ≤ 9223372036854775807)) :
    Calls Try.prog 6 #[.agg #[.int .i64 a, .int .i64 b, .int .i64 c, .int .i64 d]] w fun e w' => e = .returned (.bool true) ∧ Below w.heap.size w w' := by
  by_cases g : CuG a b c d
  · exact lawRealRootCount_core a b c d w _ _ (fun W => realS_yes a b c d W g _ rfl) (fun W => realI_yes a b c d W g)
  · exact lawRealRootCount_core a b c d w _ _ (fun W => realS_bad a b c d W g) (fun W => realI_bad a b c d W g)

theorem lawContentOf_any (a b c d : Int) (w : World) (_ha : (-9223372036854775808 ≤ a ∧ a ≤ 9223372036854775807)) (_hb : (-9223372036854775808 ≤ b ∧ b ≤ 9223372036854775807)) (_hc : (-9223372036854775808 ≤ c ∧ c ≤ 9223372036854775807)) (_hd : (-9223372036854775808 ≤ d ∧ d ≤ 9223372036854775807)) :
    Calls Try.prog 8 #[.agg #[.int .i64 a, .int .i64 b, .int .i64 c, .int .i64 d]] w fun e w' => e = .returned (.bool true) ∧ Below w.heap.size w w' := by
  by_cases g : CuG a b c d
  · exact lawContentOf_core a b c d w _ _ _ _ _ _ (fun W => contS_yes a b c d W g _ _ _ _ _ rfl rfl rfl rfl rfl) (fun W => contI_yes a b c d W g _ _ _ _ _ rfl rfl rfl rfl rfl)
  · exact lawContentOf_core a b c d w _ _ _ _ _ _ (fun W => contS_bad a b c d W g) (fun W => contI_bad a b c d W g)

theorem lawShiftCubic_any (a b c d z1 : Int) (w : World) (_ha : (-9223372036854775808 ≤ a ∧ a ≤ 9223372036854775807)) (_hb : (-9223372036854775808 ≤ b ∧ b ≤ 9223372036854775807)) (_hc : (-9223372036854775808 ≤ c ∧ c ≤ 9223372036854775807)) (_hd : (-9223372036854775808 ≤ d ∧ d ≤ 9223372036854775807)) (_h1 : (-9223372036854775808 ≤ z1 ∧ z1 ≤ 9223372036854775807)) :
    Calls Try.prog 9 #[.agg #[.int .i64 a, .int .i64 b, .int .i64 c, .int .i64 d], .int .i64 z1] w fun e w' => e = .returned (.bool true) ∧ Below w.heap.size w w' := by
  by_cases g : CuG a b c d
  · by_cases h : z1 < -10 ∨ 10 < z1
    · refine lawShiftCubic_core a b c d z1 w _ _ _ _ _ (fun W => shiftS_out a b c d z1 W g h) (fun W => ?_)
      by_cases h1 : z1 < -10
      · exact shiftI_low a b c d z1 W g h1
      · exact shiftI_high a b c d z1 W g (by omega)
    · have e : (3 * a * z1 + 2 * b) * z1 + c = 3 * a * z1 * z1 + 2 * b * z1 + c := by grind
      by_cases g2 : CuG a (3 * a * z1 + b) (3 * a * z1 * z1 + 2 * b * z1 + c) (cuVal a b c d z1 1)
      · exact lawShiftCubic_core a b c d z1 w _ _ _ _ _ (fun W => shiftS_yes a b c d z1 _ _ _ W g (by omega) (by omega) rfl rfl rfl g2) (fun W => shiftI_yes a b c d z1 _ _ _ W g (by omega) (by omega) rfl e rfl g2)
      · exact lawShiftCubic_core a b c d z1 w _ _ _ _ _ (fun W => shiftS_no a b c d z1 _ _ _ W g (by omega) (by omega) rfl rfl rfl g2) (fun W => shiftI_no a b c d z1 _ _ _ W g (by omega) (by omega) rfl e rfl g2)
  · exact lawShiftCubic_core a b c d z1 w _ _ _ _ _ (fun W => shiftS_bad a b c d z1 W g) (fun W => shiftI_bad a b c d z1 W g)

theorem lawReverseCubic_any (a b c d : Int) (w : World) (_ha : (-9223372036854775808 ≤ a ∧ a ≤ 9223372036854775807)) (_hb : (-9223372036854775808 ≤ b ∧ b ≤ 9223372036854775807)) (_hc : (-9223372036854775808 ≤ c ∧ c ≤ 9223372036854775807)) (_hd : (-9223372036854775808 ≤ d ∧ d ≤ 9223372036854775807)) :
    Calls Try.prog 10 #[.agg #[.int .i64 a, .int .i64 b, .int .i64 c, .int .i64 d]] w fun e w' => e = .returned (.bool true) ∧ Below w.heap.size w w' := by
  by_cases g : CuG a b c d
  · by_cases h : d = 0
    · exact lawReverseCubic_core a b c d w _ _ _ _ _ (fun W => revS_zero a b c d W g h) (fun W => revI_zero a b c d W g (fun k => k.1 h))
    · exact lawReverseCubic_core a b c d w _ _ _ _ _ (fun W => revS_yes a b c d W g h) (fun W => revI_yes a b c d W g ⟨h, g.2.2.2.2, g.2.2.2.1, g.2.2.1, g.2.1⟩)
  · exact lawReverseCubic_core a b c d w _ _ _ _ _ (fun W => revS_bad a b c d W g) (fun W => revI_bad a b c d W g)

end Go.Proofs.Ytjjdjhehdobmnaa
