/- The exact laws of chapter 5 at every argument (written by wip/gen/ecany.py). -/
import Derived.Test.YtmknmjkcnlennaaEcLawRow
namespace Go.Proofs.Ytmknmjkcnlennaa
open Go.RowKit Go.Joins

theorem lawOrderTwoAt_any (a b : Int) (w : World) (_ha : (-9223372036854775808 ≤ a ∧ a ≤ 9223372036854775807)) (_hb : (-9223372036854775808 ≤ b ∧ b ≤ 9223372036854775807)) :
    Calls Try.prog 10 #[.agg #[.int .i64 a, .int .i64 b]] w fun e w' => e = .returned (.bool true) ∧ Below w.heap.size w w' := by
  by_cases g : EcG a b
  · refine lawOrderTwoAt_core a b w _ (by have := ecL_len a b (-100) 201; omega) true (fun W => rootsS_yes a b W g) (fun W => ?_)
    rw [ecL_same g.1 g.2.1]
    exact rootsI_yes a b W g
  · exact lawOrderTwoAt_core a b w [] (by simp) false (fun W => rootsS_bad a b W g) (fun W => rootsI_bad a b W g)

theorem Fac.two_pow : ∀ (F : List (Nat × Nat)) (n : Nat), Fac F n → 1 ≤ n → 2 ^ F.length ≤ n
  | [], n, h, h1 => by simpa using h1
  | (q, k) :: F, n, h, h1 => by
    obtain ⟨hl, hk, r, er, hr, hr1, hF⟩ := h
    have h2 := Fac.two_pow F r hF hr1
    have h3 := (lt_mul_pow (m := r) hl.1 hk).1
    rw [List.length_cons, Nat.pow_succ]
    omega
theorem Fac.short {F : List (Nat × Nat)} {n : Nat} (h : Fac F n) (h1 : 1 ≤ n) (hn : n ≤ 6700000000) : F.length ≤ 33 := by
  have h2 := Fac.two_pow F n h h1
  apply Nat.le_of_not_lt; intro hlt
  have h3 : 2 ^ 34 ≤ 2 ^ F.length := Nat.pow_le_pow_right (by omega) hlt
  have h4 : (2 : Nat) ^ 34 = 17179869184 := by decide
  omega

theorem lawBadPrimes_any (a b : Int) (w : World) (_ha : (-9223372036854775808 ≤ a ∧ a ≤ 9223372036854775807)) (_hb : (-9223372036854775808 ≤ b ∧ b ≤ 9223372036854775807)) :
    Calls Try.prog 12 #[.agg #[.int .i64 a, .int .i64 b]] w fun e w' => e = .returned (.bool true) ∧ Below w.heap.size w w' := by
  by_cases g : EcG a b
  · obtain ⟨F, hF, hn⟩ := Fac.exist (ecD a b).natAbs (ecD a b).natAbs (Nat.le_refl _) (ecD_le g).1
    exact lawBadPrimes_core a b w _ (by have := (bpL_len F F.length).2; have := hF.short (ecD_le g).1 (ecD_le g).2; omega) true (fun W => badS_yes a b W F g hF hn) (fun W => badI_yes a b W F g hF hn)
  · exact lawBadPrimes_core a b w [] (by simp) false (fun W => badS_bad a b W g) (fun W => badI_bad a b W g)

theorem lawAreIsomorphic_any (a b c d : Int) (w : World) (_ha : (-9223372036854775808 ≤ a ∧ a ≤ 9223372036854775807)) (_hb : (-9223372036854775808 ≤ b ∧ b ≤ 9223372036854775807)) (_hc : (-9223372036854775808 ≤ c ∧ c ≤ 9223372036854775807)) (_hd : (-9223372036854775808 ≤ d ∧ d ≤ 9223372036854775807)) :
    Calls Try.prog 8 #[.agg #[.int .i64 a, .int .i64 b], .agg #[.int .i64 c, .int .i64 d]] w fun e w' => e = .returned (.bool true) ∧ Below w.heap.size w w' := by
  by_cases g : EcG a b
  · by_cases g2 : EcG c d
    · exact lawAreIsomorphic_core a b c d w _ _ (fun W => isoS_yes a b c d W g g2 _ rfl) (fun W => isoI_yes a b c d W g g2 _ rfl)
    · exact lawAreIsomorphic_core a b c d w _ _ (fun W => isoS_bad2 a b c d W g g2) (fun W => isoI_bad2 a b c d W g g2)
  · refine lawAreIsomorphic_core a b c d w _ _ (fun W => isoS_bad1 a b c d W g) (fun W => ?_)
    by_cases g2 : EcG c d
    · exact isoI_bad3 a b c d W g g2
    · exact isoI_bad1 a b c d W g g2

end Go.Proofs.Ytmknmjkcnlennaa
