/- The exact laws of chapter 5 at every argument (written by wip/gen/ecany.py). -/
import Derived.Test.YtmknmjkcnlennaaEcLaws
namespace Go.Proofs.Ytmknmjkcnlennaa
open Go.RowKit Go.Joins

theorem lawIsCurve_any (a b : Int) (w : World) (_ha : (-9223372036854775808 ≤ a ∧ a ≤ 9223372036854775807)) (_hb : (-9223372036854775808 ≤ b ∧ b ≤ 9223372036854775807)) :
    Calls Try.prog 3 #[.agg #[.int .i64 a, .int .i64 b]] w fun e w' => e = .returned (.bool true) ∧ Below w.heap.size w w' := by
  exact lawIsCurve_core a b w _ (fun W => isCurveS_any a b W) (fun W => isCurveI_any a b W)

theorem lawDiscriminantOf_any (a b : Int) (w : World) (_ha : (-9223372036854775808 ≤ a ∧ a ≤ 9223372036854775807)) (_hb : (-9223372036854775808 ≤ b ∧ b ≤ 9223372036854775807)) :
    Calls Try.prog 4 #[.agg #[.int .i64 a, .int .i64 b]] w fun e w' => e = .returned (.bool true) ∧ Below w.heap.size w w' := by
  by_cases g : EcG a b
  · exact lawDiscriminantOf_core a b w _ _ (fun W => discS_yes a b W g) (fun W => discI_yes a b W g)
  · exact lawDiscriminantOf_core a b w _ _ (fun W => discS_bad a b W g) (fun W => discI_bad a b W g)

theorem inv_of_0 (b : Int) (h : b ≠ 0) : lowP (6912 * 0 * 0 * 0) (ecD 0 b) = 0 ∧ lowQ (6912 * 0 * 0 * 0) (ecD 0 b) = 1 := by
  have hd : 0 < ecD 0 b := by
    unfold ecD
    have h1 : 0 ≤ b * b := sq_nn b
    have h2 : b * b ≠ 0 := fun e => h (by rcases Int.mul_eq_zero.1 e with e | e <;> exact e)
    have e : 27 * b * b = 27 * (b * b) := by grind
    omega
  have es : lowS (6912 * 0 * 0 * 0) (ecD 0 b) = ecD 0 b := by
    unfold lowS
    rw [if_neg (by omega)]
    simp
    omega
  unfold lowP lowQ
  rw [es]
  exact ⟨by simp, Int.ediv_self (by omega)⟩
theorem inv_of_l (a : Int) (h : a ≠ 0) : lowP (6912 * a * a * a) (ecD a 0) = 1728 ∧ lowQ (6912 * a * a * a) (ecD a 0) = 1 := by
  have e0 : 6912 * a * a * a = 1728 * ecD a 0 := by unfold ecD; grind
  have hd : ecD a 0 ≠ 0 := by
    unfold ecD
    intro e
    have e1 : 4 * (a * (a * a)) = 0 := by grind
    have e2 : a * (a * a) = 0 := by omega
    rcases Int.mul_eq_zero.1 e2 with e3 | e3
    · exact h e3
    · rcases Int.mul_eq_zero.1 e3 with e4 | e4 <;> exact h e4
  rw [e0]
  obtain ⟨D, hD⟩ : ∃ D, ecD a 0 = D := ⟨_, rfl⟩
  rw [hD] at hd ⊢
  have es : lowS (1728 * D) D = D := by
    unfold lowS
    have hg : Nat.gcd (1728 * D).natAbs D.natAbs = D.natAbs := by
      rw [Int.natAbs_mul]
      exact Nat.gcd_mul_left_left _ _
    rw [hg]
    split <;> omega
  unfold lowP lowQ
  rw [es]
  exact ⟨Int.mul_ediv_cancel _ hd, Int.ediv_self hd⟩

theorem lawInvariantOf_any (a b : Int) (w : World) (_ha : (-9223372036854775808 ≤ a ∧ a ≤ 9223372036854775807)) (_hb : (-9223372036854775808 ≤ b ∧ b ≤ 9223372036854775807)) :
    Calls Try.prog 5 #[.agg #[.int .i64 a, .int .i64 b]] w fun e w' => e = .returned (.bool true) ∧ Below w.heap.size w w' := by
  by_cases g : EcG a b
  · by_cases h0 : a = 0
    · subst h0
      have hb : b ≠ 0 := fun e => g.2.2 (by subst e; rfl)
      obtain ⟨e1, e2⟩ := inv_of_0 b hb
      exact lawInvariantOf_core 0 b w _ _ _ (fun W => invS_yes 0 b 0 1 W g e1 e2) (fun W => invI_0 b W g)
    · by_cases h1 : b = 0
      · subst h1
        obtain ⟨e1, e2⟩ := inv_of_l a h0
        exact lawInvariantOf_core a 0 w _ _ _ (fun W => invS_yes a 0 1728 1 W g e1 e2) (fun W => invI_l a W g h0)
      · exact lawInvariantOf_core a b w _ _ _ (fun W => invS_yes a b _ _ W g rfl rfl) (fun W => invI_f a b _ _ W g h0 h1 rfl rfl)
  · exact lawInvariantOf_core a b w _ _ _ (fun W => invS_bad a b W g) (fun W => invI_bad a b W g)

theorem lawScaleCurve_any (a b u : Int) (w : World) (_ha : (-9223372036854775808 ≤ a ∧ a ≤ 9223372036854775807)) (_hb : (-9223372036854775808 ≤ b ∧ b ≤ 9223372036854775807)) (_hu : (-9223372036854775808 ≤ u ∧ u ≤ 9223372036854775807)) :
    Calls Try.prog 6 #[.agg #[.int .i64 a, .int .i64 b], .int .i64 u] w fun e w' => e = .returned (.bool true) ∧ Below w.heap.size w w' := by
  by_cases g : EcG a b
  · by_cases hu : 1 ≤ u ∧ u ≤ 5
    · by_cases g2 : EcG (a * u * u * u * u) (b * u * u * u * u * u * u)
      · refine lawScaleCurve_core a b u w _ _ _ (fun W => scaleS_yes a b u W g hu g2) (fun W => ?_)
        have := scaleI_yes a b u _ _ W g hu rfl rfl (by rw [ecSc_A, ecSc_B]; exact g2)
        rwa [ecSc_A, ecSc_B] at this
      · exact lawScaleCurve_core a b u w _ _ _ (fun W => scaleS_no a b u W g hu g2) (fun W => scaleI_no a b u _ _ W g hu rfl rfl (by rw [ecSc_A, ecSc_B]; exact g2))
    · refine lawScaleCurve_core a b u w _ _ _ (fun W => scaleS_out a b u W g (by omega)) (fun W => ?_)
      by_cases h1 : u < 1
      · exact scaleI_low a b u W g h1
      · exact scaleI_high a b u W g (by omega) (by omega)
  · exact lawScaleCurve_core a b u w _ _ _ (fun W => scaleS_bad a b u W g) (fun W => scaleI_bad a b u W g)

theorem lawSmallestModel_any (a b : Int) (w : World) (_ha : (-9223372036854775808 ≤ a ∧ a ≤ 9223372036854775807)) (_hb : (-9223372036854775808 ≤ b ∧ b ≤ 9223372036854775807)) :
    Calls Try.prog 7 #[.agg #[.int .i64 a, .int .i64 b]] w fun e w' => e = .returned (.bool true) ∧ Below w.heap.size w w' := by
  by_cases g : EcG a b
  · exact lawSmallestModel_core a b w _ _ _ _ (fun W => smallS_yes a b W g) (fun W => smallI_yes a b W g)
  · exact lawSmallestModel_core a b w _ _ _ _ (fun W => smallS_bad a b W g) (fun W => smallI_bad a b W g)

theorem lawIsIntegerPoint_any (a b x y : Int) (w : World) (_ha : (-9223372036854775808 ≤ a ∧ a ≤ 9223372036854775807)) (_hb : (-9223372036854775808 ≤ b ∧ b ≤ 9223372036854775807)) (_hx : (-9223372036854775808 ≤ x ∧ x ≤ 9223372036854775807)) (_hy : (-9223372036854775808 ≤ y ∧ y ≤ 9223372036854775807)) :
    Calls Try.prog 9 #[.agg #[.int .i64 a, .int .i64 b], .int .i64 x, .int .i64 y] w fun e w' => e = .returned (.bool true) ∧ Below w.heap.size w w' := by
  by_cases g : EcG a b
  · by_cases hx : -1000000 ≤ x ∧ x ≤ 1000000
    · by_cases hy : -1000000 ≤ y ∧ y ≤ 1000000
      · exact lawIsIntegerPoint_core a b x y w _ _ (fun W => onS_yes a b x y W g hx hy _ rfl) (fun W => onI_yes a b x y W g hx hy _ rfl)
      · refine lawIsIntegerPoint_core a b x y w _ _ (fun W => onS_y a b x y W g hx (by omega)) (fun W => ?_)
        by_cases h1 : mn2 x y < -1000000
        · exact onI_low a b x y W g h1
        · exact onI_high a b x y W g h1 (by unfold mn2 at h1; unfold mx2; omega)
    · refine lawIsIntegerPoint_core a b x y w _ _ (fun W => onS_x a b x y W g (by omega)) (fun W => ?_)
      by_cases h1 : mn2 x y < -1000000
      · exact onI_low a b x y W g h1
      · exact onI_high a b x y W g h1 (by unfold mn2 at h1; unfold mx2; omega)
  · exact lawIsIntegerPoint_core a b x y w _ _ (fun W => onS_bad a b x y W g) (fun W => onI_bad a b x y W g)

theorem lawRealParts_any (a b : Int) (w : World) (_ha : (-9223372036854775808 ≤ a ∧ a ≤ 9223372036854775807)) (_hb : (-9223372036854775808 ≤ b ∧ b ≤ 9223372036854775807)) :
    Calls Try.prog 11 #[.agg #[.int .i64 a, .int .i64 b]] w fun e w' => e = .returned (.bool true) ∧ Below w.heap.size w w' := by
  by_cases g : EcG a b
  · by_cases hn : ecD a b < 0
    · exact lawRealParts_core a b w _ _ (fun W => partsS_neg a b W g hn) (fun W => partsI_neg a b W g hn)
    · exact lawRealParts_core a b w _ _ (fun W => partsS_pos a b W g hn) (fun W => partsI_pos a b W g hn)
  · exact lawRealParts_core a b w _ _ (fun W => partsS_bad a b W g) (fun W => partsI_bad a b W g)

end Go.Proofs.Ytmknmjkcnlennaa
