/- Exact laws of chapter 6 at every argument (written by wip/gen/ptany.py). -/
import Derived.Test.YtabcnkobojkdhaaDoorPtLawB
import Derived.Test.YtabcnkobojkdhaaDoorPLawM
import Derived.Test.YtabcnkobojkdhaaDoorPtMi
namespace Go.Proofs.YtabcnkobojkdhaaDoor
open Go.RowKit Go.Joins

theorem add_off {a b : Int} {p : P3} (g : ¬ PtG a b p) (W : World) : Calls Tryd.prog 13 #[.agg #[.int .i64 a, .int .i64 b], .agg #[.int .i64 0, .int .i64 0, .int .i64 0], .agg #[.int .i64 p.x, .int .i64 p.y, .int .i64 p.e]] W (GivesPB W 0 0 0 false) := by
  by_cases ge : EcG a b
  · exact addI_off1 a b .zero p W ⟨ge, .inl rfl⟩ g
  · exact addI_off0 a b .zero p W (fun k => ge k.1)
theorem msI_on {a b : Int} {p : P3} (g : PtG a b p) (N : Nat) (W : World) (hL : Lim W) (h1 : 1 ≤ N) (h2 : N ≤ 12) : Calls Tryd.prog 20 #[.agg #[.int .i64 a, .int .i64 b], .agg #[.int .i64 p.x, .int .i64 p.y, .int .i64 p.e], .int .i64 (N : Int)] W (GivesPO W (multL a p N)) :=
  msI_c a b p N W hL h1 h2 fun _ _ hs W hL => addI_on W hL ⟨g.1, mult_on ⟨g.1.1, g.1.2.1⟩ g.2 hs⟩ g
theorem PtG.neg {a b : Int} {p : P3} (g : PtG a b p) : PtG a b p.neg := ⟨g.1, g.2.neg⟩
theorem wrap_min : wrap64 (- -9223372036854775808) = -9223372036854775808 := by unfold wrap64; omega
theorem wrapG {a b : Int} {p : P3} (hy : -9223372036854775808 ≤ p.y ∧ p.y ≤ 9223372036854775807) (g : PtG a b ⟨p.x, wrap64 (-p.y), p.e⟩) : PtG a b p := by
  have hb := g.2.bd.2.2
  dsimp only at hb
  by_cases h : p.y = -9223372036854775808
  · rw [h, wrap_min] at hb; omega
  · have e : wrap64 (-p.y) = -p.y := IntWalk.wrap64_in _ (by omega)
    have := g.neg
    rw [show P3.neg ⟨p.x, wrap64 (-p.y), p.e⟩ = p from by unfold P3.neg; rw [e]; simp] at this
    exact this
/-- The program's MultiplesOf at bad arguments. -/
theorem msI_bad {a b : Int} {p : P3} {n : Int} (h : ¬ PtG a b p ∨ n < 1 ∨ 12 < n) (W : World) (hL : Lim W) : Calls Tryd.prog 20 #[.agg #[.int .i64 a, .int .i64 b], .agg #[.int .i64 p.x, .int .i64 p.y, .int .i64 p.e], .int .i64 n] W (GivesPRowOk W [] false) := by
  by_cases h1 : n < 1
  · exact msI_low a b p n W h1
  · by_cases h2 : 12 < n
    · exact msI_high a b p n W (by omega) h2
    · exact msI_off a b p n W hL (by omega) (by omega) fun W _ => add_off (h.resolve_right (by omega)) W
theorem negI_bad {a b : Int} {p : P3} {z : Int} (hy : -9223372036854775808 ≤ p.y ∧ p.y ≤ 9223372036854775807) (hz : -9223372036854775808 ≤ z ∧ z ≤ 9223372036854775807) (hn : z < 0) (h : ¬ PtG a b p ∨ z < -12) (w : World) (hL : Lim w) :
    Calls Tryd.prog 18 #[.agg #[.int .i64 a, .int .i64 b], .agg #[.int .i64 p.x, .int .i64 p.y, .int .i64 p.e], .int .i64 z] w (GivesPB w 0 0 0 false) := by
  refine mulI_negN a b p z w hL hn fun W hL => msI_bad (p := ⟨p.x, wrap64 (-p.y), p.e⟩) ?_ W hL
  rcases h with h | h
  · exact .inl fun k => h (wrapG hy k)
  · refine .inr ?_
    by_cases e : z = -9223372036854775808
    · rw [e, wrap_min]; omega
    · rw [IntWalk.wrap64_in _ (by omega)]; omega

theorem lawMultiplesOf_any (a b : Int) (p : P3) (z : Int) (w : World) (hL : Lim w) (_ : (-9223372036854775808 ≤ a ∧ a ≤ 9223372036854775807)) (_ : (-9223372036854775808 ≤ b ∧ b ≤ 9223372036854775807)) (_ : (-9223372036854775808 ≤ p.x ∧ p.x ≤ 9223372036854775807)) (_ : (-9223372036854775808 ≤ p.y ∧ p.y ≤ 9223372036854775807)) (_ : (-9223372036854775808 ≤ p.e ∧ p.e ≤ 9223372036854775807)) (_ : (-9223372036854775808 ≤ z ∧ z ≤ 9223372036854775807)) :
    Calls Tryd.prog 6 #[.agg #[.int .i64 a, .int .i64 b], .agg #[.int .i64 p.x, .int .i64 p.y, .int .i64 p.e], .int .i64 z] w fun e w' => e = .returned (.bool true) ∧ Below w.heap.size w w' := by
  by_cases hz : 1 ≤ z ∧ z ≤ 12
  · obtain ⟨N, rfl⟩ : ∃ N : Nat, z = N := ⟨z.toNat, by omega⟩
    by_cases g : PtG a b p
    · have hc := And.intro g.1.1 g.1.2.1
      have hl : ((multL a p N).getD []).length ≤ 1000 := by
        cases h : multL a p N with
        | none => simp
        | some L => have := multL_len h; simp only [Option.getD_some]; omega
      exact lawMultiplesOf_core a b p.x p.y p.e N w hL _ hl _ (fun W => msS_c a b p N W g (by omega) (by omega) (fun k hk W => ptTimes_any p k W (by omega) hc g.2)) (fun W hL => msI_on g N W hL (by omega) (by omega))
    · exact lawMultiplesOf_core a b p.x p.y p.e N w hL [] (by simp) false (fun W => msS_off a b p N W g) (fun W hL => msI_bad (.inl g) W hL)
  · have hz' : z < 1 ∨ 12 < z := by omega
    by_cases g : PtG a b p
    · exact lawMultiplesOf_core a b p.x p.y p.e z w hL [] (by simp) false (fun W => msS_far a b p z W g hz') (fun W hL => msI_bad (.inr hz') W hL)
    · exact lawMultiplesOf_core a b p.x p.y p.e z w hL [] (by simp) false (fun W => msS_off a b p z W g) (fun W hL => msI_bad (.inl g) W hL)

theorem lawMultiplePoint_any (a b : Int) (p : P3) (z : Int) (w : World) (hL : Lim w) (_ : (-9223372036854775808 ≤ a ∧ a ≤ 9223372036854775807)) (_ : (-9223372036854775808 ≤ b ∧ b ≤ 9223372036854775807)) (_ : (-9223372036854775808 ≤ p.x ∧ p.x ≤ 9223372036854775807)) (hpy : (-9223372036854775808 ≤ p.y ∧ p.y ≤ 9223372036854775807)) (_ : (-9223372036854775808 ≤ p.e ∧ p.e ≤ 9223372036854775807)) (hzz : (-9223372036854775808 ≤ z ∧ z ≤ 9223372036854775807)) :
    Calls Tryd.prog 5 #[.agg #[.int .i64 a, .int .i64 b], .agg #[.int .i64 p.x, .int .i64 p.y, .int .i64 p.e], .int .i64 z] w fun e w' => e = .returned (.bool true) ∧ Below w.heap.size w w' := by
  have hyb := hpy
  have hzb := hzz
  by_cases g : PtG a b p
  case neg =>
    rcases Int.lt_trichotomy z 0 with hz | rfl | hz
    · exact lawMultiplePoint_core a b p.x p.y p.e z w hL _ _ _ _ (fun W => mulS_off a b p z W g) (fun W hL => negI_bad hyb hzb hz (.inl g) W hL)
    · refine lawMultiplePoint_core a b p.x p.y p.e 0 w hL 0 0 0 false (fun W => mulS_off a b p 0 W g) (fun W _ => ?_)
      have := mulI_0 a b p W
      rwa [decide_eq_false g] at this
    · exact lawMultiplePoint_core a b p.x p.y p.e z w hL _ _ _ _ (fun W => mulS_off a b p z W g) (fun W hL => mulI_posN a b p z W hL (by omega) fun W hL => msI_bad (.inl g) W hL)
  have hc := And.intro g.1.1 g.1.2.1
  by_cases hz : -12 ≤ z ∧ z ≤ 12
  case neg =>
    by_cases h : z < 0
    · exact lawMultiplePoint_core a b p.x p.y p.e z w hL _ _ _ _ (fun W => mulS_far a b p z W g (by omega)) (fun W hL => negI_bad hyb hzb h (.inr (by omega)) W hL)
    · exact lawMultiplePoint_core a b p.x p.y p.e z w hL _ _ _ _ (fun W => mulS_far a b p z W g (by omega)) (fun W hL => mulI_posN a b p z W hL (by omega) fun W hL => msI_bad (.inr (by omega)) W hL)
  have hy := g.2.bd.2.2
  rcases Int.lt_trichotomy z 0 with h | rfl | h
  · obtain ⟨k, rfl⟩ : ∃ k : Nat, z = -((k : Int) + 1) := ⟨(-z - 1).toNat, by omega⟩
    have c1 := fun W => ptTimes_minus p (k + 1) W (by omega) (by omega) hc g.2
    have c2 := fun W hL => msI_on g.neg (k + 1) W hL (by omega) (by omega)
    cases hm : mult a p.neg (k + 1) with
    | none =>
      rw [hm] at c1
      rw [multL_iff.2 hm] at c2
      refine lawMultiplePoint_core a b p.x p.y p.e (-((k : Int) + 1)) w hL 0 0 0 false (fun W => mulS_c a b p _ W g (by omega) (by omega) _ _ _ _ c1) (fun W hL => mulI_negN a b p _ W hL (by omega) fun W hL => ?_)
      rw [IntWalk.wrap64_in (-p.y) (by omega), IntWalk.wrap64_in (- -((k : Int) + 1)) (by omega), Int.neg_neg]
      exact c2 W hL
    | some s =>
      cases hl : multL a p.neg (k + 1) with
      | none => rw [multL_iff.1 hl] at hm; cases hm
      | some L =>
        rw [hm] at c1
        rw [hl] at c2
        obtain ⟨s', h1, h2⟩ := multL_last hl
        rw [hm] at h1
        cases h1
        exact lawMultiplePoint_core a b p.x p.y p.e (-((k : Int) + 1)) w hL s.x s.y s.e true (fun W => mulS_c a b p _ W g (by omega) (by omega) _ _ _ _ c1) (fun W hL => mulI_negS a b p W hL (by omega) k (by omega) L (multL_len hl) s h2 c2)
  · refine lawMultiplePoint_core a b p.x p.y p.e 0 w hL 0 0 0 true (fun W => mulS_c a b p 0 W g (by omega) (by omega) _ _ _ _ (fun W => ptTimes_any p 0 W (by omega) hc g.2)) (fun W _ => ?_)
    have := mulI_0 a b p W
    rwa [decide_eq_true g] at this
  · obtain ⟨k, rfl⟩ : ∃ k : Nat, z = (k : Int) + 1 := ⟨(z - 1).toNat, by omega⟩
    have c1 := fun W => ptTimes_any p (k + 1) W (by omega) hc g.2
    have c2 := fun W hL => msI_on g (k + 1) W hL (by omega) (by omega)
    cases hm : mult a p (k + 1) with
    | none =>
      rw [hm] at c1
      rw [multL_iff.2 hm] at c2
      exact lawMultiplePoint_core a b p.x p.y p.e ((k : Int) + 1) w hL 0 0 0 false (fun W => mulS_c a b p _ W g (by omega) (by omega) _ _ _ _ c1) (fun W hL => mulI_posN a b p _ W hL (by omega) c2)
    | some s =>
      cases hl : multL a p (k + 1) with
      | none => rw [multL_iff.1 hl] at hm; cases hm
      | some L =>
        rw [hm] at c1
        rw [hl] at c2
        obtain ⟨s', h1, h2⟩ := multL_last hl
        rw [hm] at h1
        cases h1
        exact lawMultiplePoint_core a b p.x p.y p.e ((k : Int) + 1) w hL s.x s.y s.e true (fun W => mulS_c a b p _ W g (by omega) (by omega) _ _ _ _ c1) (fun W hL => mulI_posS a b p W hL k (by omega) L (multL_len hl) s h2 c2)
end Go.Proofs.YtabcnkobojkdhaaDoor
