/- Exact laws of chapter 6 at every argument (written by wip/gen/ptany.py). -/
import Derived.Test.YtabcnkobojkdhaaPLawX
import Derived.Test.YtabcnkobojkdhaaPtXi
namespace Go.Proofs.Ytabcnkobojkdhaa
open Go.RowKit Go.Joins

theorem irt_ex (d : Int) : ∃ R, IRt R d := by
  by_cases h1 : d < 0
  · exact ⟨0, .of_neg h1⟩
  · by_cases h2 : 4611686018427387904 ≤ d
    · exact ⟨_, .of_big h2⟩
    · refine ⟨rootOf d.toNat, ?_⟩
      have := IRt.of_root (rootOf_spec d.toNat) (by omega)
      rwa [show ((d.toNat : Nat) : Int) = d from by omega] at this
theorem irt_iroot {R : Nat} {d : Int} (h : IRt R d) (h0 : 0 ≤ d) (h1 : d < 4611686018427387904) : iroot d = R := by
  have := IRt.of_root (rootOf_spec d.toNat) (by omega)
  rw [show ((d.toNat : Nat) : Int) = d from by omega] at this
  unfold iroot
  rw [this.unique h]
theorem atXI_on {a b n d : Int} {R : Nat} (w : World) (g : EcG a b) (hR : IRt R d) (hs : (R : Int) * R = d) (hp : Plc n R) : Calls Try.prog 16 #[.agg #[.int .i64 a, .int .i64 b], .agg #[.int .i64 n, .int .i64 d]] w (GivesPRowOk w (atX n R (ptV a b n R)) true) := by
  have c1 := fun W => placeAt_yes n d R W hR hs hp
  have c2 := fun W => squareOfY_any a b n R _ W g.1 g.2.1 hp.1 hp.2.1 rfl
  have hv := ptV_le g.1 g.2.1 hp.1 hp.2.1
  obtain ⟨T, hT⟩ := irt_ex (ptV a b n R)
  unfold atX
  by_cases h0 : ptV a b n R < 0
  · rw [if_pos (.inl h0)]
    have hT0 : T = 0 := hT.unique (.of_neg h0)
    subst hT0
    exact atXI_no a b n d w g R _ 0 c1 c2 (fun W => exactRoot_any _ W 0 hT false (by rw [beq_eq_false_iff_ne]; omega))
  · have hi := irt_iroot hT (by omega) (by omega)
    rw [hi]
    have hTn : 0 ≤ (T : Int) * T := Int.mul_nonneg (by omega) (by omega)
    by_cases hr : (T : Int) * T = ptV a b n R
    · rw [if_neg (fun k => k.elim h0 (fun k => k hr))]
      have c3 := fun W => exactRoot_any _ W T hT true (by rw [beq_iff_eq]; exact hr)
      by_cases h1 : ptV a b n R = 0
      · rw [if_pos h1]
        have hT0 : T = 0 := by
          rw [h1] at hr
          rcases Int.mul_eq_zero.1 hr with k | k <;> omega
        exact atXI_one a b n d w g R _ T c1 c2 c3 hT0
      · rw [if_neg h1]
        have hT1 : T ≠ 0 := fun k => h1 (by rw [← hr, k]; rfl)
        have hT2 : T ≤ 4000000 := by
          apply Nat.le_of_not_lt; intro k
          have := sq_le (show 4000001 ≤ T by omega)
          have e : ((T * T : Nat) : Int) = (T : Int) * T := Int.natCast_mul T T
          omega
        exact atXI_two a b n d w g R _ T c1 c2 c3 (by omega) hT2
    · rw [if_pos (.inr hr)]
      exact atXI_no a b n d w g R _ T c1 c2 (fun W => exactRoot_any _ W T hT false (by rw [beq_eq_false_iff_ne]; exact hr))
theorem atX_len (x e V : Int) : (atX x e V).length ≤ 1000 := by
  unfold atX
  split
  · simp
  · split <;> simp

theorem lawPointsAtX_any (a b : Int) (x y : Int) (w : World) (_ : (-9223372036854775808 ≤ a ∧ a ≤ 9223372036854775807)) (_ : (-9223372036854775808 ≤ b ∧ b ≤ 9223372036854775807)) (_ : (-9223372036854775808 ≤ x ∧ x ≤ 9223372036854775807)) (_ : (-9223372036854775808 ≤ y ∧ y ≤ 9223372036854775807)) :
    Calls Try.prog 5 #[.agg #[.int .i64 a, .int .i64 b], .agg #[.int .i64 x, .int .i64 y]] w fun e w' => e = .returned (.bool true) ∧ Below w.heap.size w w' := by
  obtain ⟨R, hR⟩ := irt_ex y
  by_cases g : EcG a b
  case neg =>
    refine lawPointsAtX_core a b x y w [] (by simp) false (fun W => atXS_bad a b x y W g) (fun W => ?_)
    by_cases hs : (R : Int) * R = y
    · by_cases hp : Plc x R
      · exact atXI_bad a b x y W g _ _ _ _ (fun W => placeAt_yes x y R W hR hs hp)
      · exact atXI_bad a b x y W g _ _ _ _ (fun W => placeAt_pl x y R W hR hs hp)
    · exact atXI_bad a b x y W g _ _ _ _ (fun W => placeAt_sq x y R W hR hs)
  by_cases hp : (R : Int) * R = y ∧ Plc x R
  · obtain ⟨hs, hp⟩ := hp
    have hR2 := mul_bd1 hp.2.1.1 hp.2.1.2 hp.2.1.1 hp.2.1.2
    rw [hs] at hR2
    have hi := irt_iroot hR (by omega) (by omega)
    have gf : FrG x y := ⟨hR2.1, by omega, by have := hp.1; omega, by have := hp.1; omega, by rw [← hs, Int.natAbs_mul]; exact cop_sq hp.2.2⟩
    refine lawPointsAtX_core a b x y w _ (atX_len x R (ptV a b x R)) true (fun W => ?_) (fun W => atXI_on W g hR hs hp)
    refine atXS_yes a b x y W g gf (by rw [hi]; exact hs) (by rw [hi]; exact hp.2.1.2) hp.1.1 hp.1.2 _ (fun W => ?_)
    rw [hi]
    exact ptAtX_any a b x R W g.1 g.2.1 hp.1 hp.2.1
  · have cI : ∀ W : World, Calls Try.prog 16 #[.agg #[.int .i64 a, .int .i64 b], .agg #[.int .i64 x, .int .i64 y]] W (GivesPRowOk W [] false) := by
      intro W
      by_cases hs : (R : Int) * R = y
      · exact atXI_pl a b x y W g _ _ _ (fun W => placeAt_pl x y R W hR hs (fun k => hp ⟨hs, k⟩))
      · exact atXI_pl a b x y W g _ _ _ (fun W => placeAt_sq x y R W hR hs)
    refine lawPointsAtX_core a b x y w [] (by simp) false (fun W => ?_) cI
    by_cases gf : FrG x y
    · have hi := irt_iroot hR (by have := gf.1; omega) (by have := gf.2.1; omega)
      by_cases hr : iroot y * iroot y = y
      · by_cases he : iroot y ≤ 20
        · by_cases hx : x < -10000 ∨ 10000 < x
          · exact atXS_x a b x y W g gf hr he hx
          · refine absurd ⟨by rw [← hi]; exact hr, ⟨by omega, by omega⟩, ⟨?_, by rw [← hi]; exact he⟩, ?_⟩ hp
            · have := iroot_bd gf.1; rw [hi] at this; exact this
            · have h5 := gf.2.2.2.2
              rw [← hr, hi] at h5
              exact coprime_dvd h5
        · exact atXS_e a b x y W g gf hr (by omega)
      · exact atXS_sq a b x y W g gf hr
    · exact atXS_fr a b x y W g gf
end Go.Proofs.Ytabcnkobojkdhaa
