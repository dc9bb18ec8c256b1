/- The model's IsPointOf, jointly over its cases (own work). -/
import Derived.Test.YtokhadhfjbecmaaDoorPtS
namespace Go.Proofs.YtokhadhfjbecmaaDoor
open Go.RowKit Go.Joins

noncomputable instance (a b : Int) (p : P3) : Decidable (PtOn a b p) := Classical.propDecidable _
/-- A point of a valid curve. -/
def PtG (a b : Int) (p : P3) : Prop := EcG a b ∧ PtOn a b p
noncomputable instance (a b : Int) (p : P3) : Decidable (PtG a b p) := Classical.propDecidable _

theorem ptOnS_any (a b : Int) (p : P3) (w : World) (ha : -1000 ≤ a ∧ a ≤ 1000) (hb : -10000 ≤ b ∧ b ≤ 10000) :
    Calls Tryd.prog 24 #[.agg #[.int .i64 a, .int .i64 b], .agg #[.int .i64 p.x, .int .i64 p.y, .int .i64 p.e]] w (GivesB w (decide (PtOn a b p))) := by
  obtain ⟨x, y, e⟩ := p
  have no : ∀ {q : P3}, ¬ PtOn a b q → decide (PtOn a b q) = false := fun h => decide_eq_false h
  show Calls _ _ #[_, .agg #[.int .i64 x, .int .i64 y, .int .i64 e]] _ _
  by_cases h0 : e = 0
  · subst h0
    by_cases hx : x = 0
    · subst hx
      by_cases hy : y = 0
      · subst hy; rw [decide_eq_true (show PtOn a b ⟨0, 0, 0⟩ from .inl rfl)]; exact ptOnS_0 a b w
      · rw [no (fun h => h.elim (fun h => hy (congrArg P3.y h)) (fun h => absurd h.e.1 (by decide : ¬ (1 : Int) ≤ 0)))]; exact ptOnS_0y a b y w hy
    · rw [no (fun h => h.elim (fun h => hx (congrArg P3.x h)) (fun h => absurd h.e.1 (by decide : ¬ (1 : Int) ≤ 0)))]; exact ptOnS_0x a b x y w hx
  · have fin : PtOn a b ⟨x, y, e⟩ → Fin3 a b ⟨x, y, e⟩ := fun h => h.fin h0
    by_cases hx : -10000 ≤ x ∧ x ≤ 10000
    · by_cases he : 1 ≤ e ∧ e ≤ 20
      · by_cases hy : -10000000 ≤ y ∧ y ≤ 10000000
        · by_cases hg : Nat.gcd x.natAbs e.natAbs = 1
          · have := ptOnS_yes a b x y e w ha hb hx he hy _ rfl hg (decide (PtOn a b ⟨x, y, e⟩)) (by
              by_cases hv : y * y = ptV a b x e
              · rw [decide_eq_true (show PtOn a b ⟨x, y, e⟩ from .inr ⟨hx, he, y_bd hv (ptV_le ha hb hx he).2, hg, hv⟩)]; exact (beq_iff_eq.2 hv).symm
              · rw [no (fun h => hv (fin h).v)]; exact (beq_eq_false_iff_ne.2 hv).symm)
            exact this
          · rw [no (fun h => hg (fin h).c)]; exact ptOnS_g a b x y e w h0 hx he hy _ rfl hg
        · rw [no (fun h => hy (by have := (fin h).y; dsimp only at this; omega))]; exact ptOnS_y a b x y e w h0 hx he (by omega)
      · rw [no (fun h => he (fin h).e)]; exact ptOnS_e a b x y e w h0 hx (by omega)
    · rw [no (fun h => hx (fin h).x)]; exact ptOnS_x a b x y e w h0 (by omega)
end Go.Proofs.YtokhadhfjbecmaaDoor
