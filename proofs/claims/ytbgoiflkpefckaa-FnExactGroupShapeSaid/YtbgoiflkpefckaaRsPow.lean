/- PowerOf, InverseOf, SquareSymbol: the model's and the program's, and their laws. -/
import Derived.Test.YtbgoiflkpefckaaRsOne
namespace Go.Proofs.Ytbgoiflkpefckaa
open Go.RowKit Go.Joins

theorem nat_IsA {r : Nat} (h : r < 997) : IsA (r : Int) := ⟨by omega, by omega⟩
theorem nat_mod {r p : Nat} (h : r < p) : (r : Int) = (r : Int) % p := by rw [Int.emod_eq_of_lt] <;> omega

set_option maxHeartbeats 1000000 in
theorem powerOf_yes (a : Int) (n p : Nat) (w : World) (ha : IsA a) (hp : Pr p) (hp2 : p ≤ 997) (hn : n ≤ 1000000000) : ∀ r R : Nat, (r : Int) = a % p → r ^ n % p = R →
    Calls Try.prog 83 #[.int .i64 a, .int .i64 (n : Int), .int .i64 (p : Int)] w fun e w' => e = .returned (.tuple #[.int .i64 (R : Int), .bool true]) ∧ w = w' := by
  intro r R hr hR
  have hp1 := hp.1
  have hrp : r < p := by have := Int.emod_lt_of_pos a (show (0 : Int) < p by omega); omega
  have c := fun W => residueOf_yes a p W hp hp2 ha r hr
  replace c := Lib.hid c
  replace hR := Lib.hid hR
  clear hr hp
  go_enter Try.func83, Try.ntmps83
  go_wp2_with fail
  refine (c.out _).mono ?_
  rintro e w' ⟨rfl, rfl⟩
  go_wp2_with fail
  go_loop [1, 10, 8] (fun u o x => ∃ m k y : Nat, m ≤ 1000000000 ∧ k < p ∧ y < p ∧ Hid (k * y ^ m % p = R) ∧ u = .int .i64 m ∧ o = .int .i64 k ∧ x = .int .i64 y) (fun u _ _ => (intOf u).toNat)
  case atStart => exact ⟨n, 1, r, hn, by omega, hrp, by show 1 * r ^ n % p = R; rw [Nat.one_mul]; exact hR.out, rfl, rfl, rfl⟩
  case round =>
    obtain ⟨m, k, y, hm, hk, hy, hi, rfl, rfl, rfl⟩ := hrel
    clear hR
    obtain ⟨s1, s2⟩ := small_mul (o := k) (x := y) (by omega) (by omega)
    obtain ⟨s3, s4⟩ := small_mul (o := y) (x := y) (by omega) (by omega)
    by_cases h0 : 0 < m
    · have hyy : y * y % p < p := Nat.mod_lt _ (by omega)
      have hky : k * y % p < p := Nat.mod_lt _ (by omega)
      have q1 := Lib.hid (cast_mm k y p)
      have q2 := Lib.hid (cast_mm y y p)
      by_cases hodd : m % 2 = 1
      · have e1 : ((m : Int) % 2 == 1) = true := by rw [beq_iff_eq]; omega
        have hi2 : Hid (k * y % p * (y * y % p) ^ (m / 2) % p = R) := (pw_odd hodd).trans hi.out
        clear hi hodd
        go_wp2_with fail
        go_round
        case rel => exact ⟨m / 2, k * y % p, y * y % p, by omega, hky, hyy, hi2, by simp, by rw [q1.out], by rw [q2.out]⟩
        case measure => simp [intOf]; omega
      · have e1 : ((m : Int) % 2 == 1) = false := by rw [beq_eq_false_iff_ne]; omega
        have hi2 : Hid (k * (y * y % p) ^ (m / 2) % p = R) := (pw_even (by omega)).trans hi.out
        clear hi hodd
        go_wp2_with fail
        go_round
        case rel => exact ⟨m / 2, k, y * y % p, by omega, hk, hyy, hi2, by simp, rfl, by rw [q2.out]⟩
        case measure => simp [intOf]; omega
    · have hf : Hid (k = R) := by
        have := hi.out
        rw [show m = 0 from by omega, Nat.pow_zero, Nat.mul_one, Nat.mod_eq_of_lt hk] at this
        exact this
      clear hi
      go_wp2_with fail
      go_ret2
      exact ⟨by rw [hf.out]; rfl, rfl⟩

set_option maxHeartbeats 400000 in
theorem powerOf_bad (a n p : Int) (w : World) (h : ¬ (IsP p ∧ IsA a)) :
    Calls Try.prog 83 #[.int .i64 a, .int .i64 n, .int .i64 p] w fun e w' => e = .returned (.tuple #[.int .i64 0, .bool false]) ∧ w = w' := by
  have c := fun W => residueOf_no a p W h
  replace c := Lib.hid c
  clear h
  go_enter Try.func83, Try.ntmps83
  go_wp2_with fail
  refine (c.out _).mono ?_
  rintro e w' ⟨rfl, rfl⟩
  go_wp2_with fail
  go_ret2
  exact ⟨rfl, rfl⟩

set_option maxHeartbeats 400000 in
theorem powerOf_far (a n : Int) (p : Nat) (w : World) (hp : Pr p) (hp2 : p ≤ 997) (ha : IsA a) (h : n < 0 ∨ 1000000000 < n) :
    Calls Try.prog 83 #[.int .i64 a, .int .i64 n, .int .i64 (p : Int)] w fun e w' => e = .returned (.tuple #[.int .i64 0, .bool false]) ∧ w = w' := by
  obtain ⟨r, hr, _⟩ := res_nat a hp.1
  have c := fun W => residueOf_yes a p W hp hp2 ha r hr
  replace c := Lib.hid c
  clear hr hp ha
  by_cases h1 : n < 0
  · clear h
    go_enter Try.func83, Try.ntmps83
    go_wp2_with fail
    refine (c.out _).mono ?_
    rintro e w' ⟨rfl, rfl⟩
    go_wp2_with fail
    go_ret2
    exact ⟨rfl, rfl⟩
  · have h2 : 1000000000 < n := by omega
    clear h
    go_enter Try.func83, Try.ntmps83
    go_wp2_with fail
    refine (c.out _).mono ?_
    rintro e w' ⟨rfl, rfl⟩
    go_wp2_with fail
    go_ret2
    exact ⟨rfl, rfl⟩

set_option maxHeartbeats 400000 in
theorem mdInverse_any (a : Int) (p : Nat) (w : World) (ha : IsA a) (hp : 2 ≤ p) (hp2 : p ≤ 997) : ∀ r R : Nat, (r : Int) = a % p → r ^ (p - 2) % p = R →
    Calls Try.prog 77 #[.int .i64 a, .int .i64 (p : Int)] w fun e w' => e = .returned (.int .i64 (R : Int)) ∧ w = w' := by
  intro r R hr hR
  have c := fun W => mdPower_any a (p - 2) p W ha hp hp2 (by omega) r R hr hR
  rw [show ((p - 2 : Nat) : Int) = (p : Int) - 2 from by omega] at c
  replace c := Lib.hid c
  clear hr hR
  go_enter Try.func77, Try.ntmps77
  go_wp2_with fail
  refine (c.out _).mono ?_
  rintro e w' ⟨rfl, rfl⟩
  go_wp2_with fail
  go_ret
  exact ⟨rfl, rfl⟩

set_option maxHeartbeats 400000 in
theorem inverseOf_yes (a : Int) (p : Nat) (w : World) (ha : IsA a) (hp : Pr p) (hp2 : p ≤ 997) : ∀ r R : Nat, (r : Int) = a % p → r < p → r ≠ 0 → r ^ (p - 2) % p = R →
    Calls Try.prog 82 #[.int .i64 a, .int .i64 (p : Int)] w fun e w' => e = .returned (.tuple #[.int .i64 (R : Int), .bool true]) ∧ w = w' := by
  intro r R hr hrp h0 hR
  have hp1 := hp.1
  have c := fun W => residueOf_yes a p W hp hp2 ha r hr
  have c3 := fun W => powerOf_yes r (p - 2) p W (nat_IsA (by omega)) hp hp2 (by omega) r R (nat_mod hrp) hR
  rw [show ((p - 2 : Nat) : Int) = (p : Int) - 2 from by omega] at c3
  replace c := Lib.hid c
  replace c3 := Lib.hid c3
  clear hr hp hR
  have e0 : ((r : Int) == 0) = false := by rw [beq_eq_false_iff_ne]; omega
  clear h0
  go_enter Try.func82, Try.ntmps82
  go_wp2_with fail
  refine (c.out _).mono ?_
  rintro e w' ⟨rfl, rfl⟩
  go_wp2_with fail
  refine (c3.out _).mono ?_
  rintro e w' ⟨rfl, rfl⟩
  go_wp2_with fail
  go_ret2
  exact ⟨rfl, rfl⟩

set_option maxHeartbeats 400000 in
theorem inverseOf_zero (a : Int) (p : Nat) (w : World) (ha : IsA a) (hp : Pr p) (hp2 : p ≤ 997) (h0 : a % p = 0) :
    Calls Try.prog 82 #[.int .i64 a, .int .i64 (p : Int)] w fun e w' => e = .returned (.tuple #[.int .i64 0, .bool false]) ∧ w = w' := by
  have c := fun W => residueOf_yes a p W hp hp2 ha 0 (by rw [h0]; rfl)
  replace c := Lib.hid c
  clear hp h0
  go_enter Try.func82, Try.ntmps82
  go_wp2_with fail
  refine (c.out _).mono ?_
  rintro e w' ⟨rfl, rfl⟩
  go_wp2_with fail
  go_ret2
  exact ⟨rfl, rfl⟩

set_option maxHeartbeats 400000 in
theorem inverseOf_bad (a p : Int) (w : World) (h : ¬ (IsP p ∧ IsA a)) :
    Calls Try.prog 82 #[.int .i64 a, .int .i64 p] w fun e w' => e = .returned (.tuple #[.int .i64 0, .bool false]) ∧ w = w' := by
  have c := fun W => residueOf_no a p W h
  replace c := Lib.hid c
  clear h
  go_enter Try.func82, Try.ntmps82
  go_wp2_with fail
  refine (c.out _).mono ?_
  rintro e w' ⟨rfl, rfl⟩
  go_wp2_with fail
  go_ret2
  exact ⟨rfl, rfl⟩

/-- What the square symbol is, from the power. -/
def sym (R p : Nat) : Int := if R = p - 1 then -1 else R

set_option maxHeartbeats 400000 in
theorem mdSymbol_any (a : Int) (p : Nat) (w : World) (ha : IsA a) (hp : 2 ≤ p) (hp2 : p ≤ 997) : ∀ r R : Nat, (r : Int) = a % p → r ^ ((p - 1) / 2) % p = R →
    Calls Try.prog 71 #[.int .i64 a, .int .i64 (p : Int)] w fun e w' => e = .returned (.int .i64 (sym R p)) ∧ w = w' := by
  intro r R hr hR
  have c := fun W => mdPower_any a ((p - 1) / 2) p W ha hp hp2 (by omega) r R hr hR
  rw [show (((p - 1) / 2 : Nat) : Int) = ((p : Int) - 1) / 2 from by omega] at c
  replace c := Lib.hid c
  clear hr hR
  by_cases h : R = p - 1
  · have e1 : ((R : Int) == (p : Int) - 1) = true := by rw [beq_iff_eq]; omega
    have hs : Hid (sym R p = -1) := by show sym R p = -1; unfold sym; rw [if_pos h]
    clear h
    go_enter Try.func71, Try.ntmps71
    go_wp2_with fail
    refine (c.out _).mono ?_
    rintro e w' ⟨rfl, rfl⟩
    go_wp2_with fail
    go_ret
    exact ⟨by rw [hs.out]; rfl, rfl⟩
  · have e1 : ((R : Int) == (p : Int) - 1) = false := by rw [beq_eq_false_iff_ne]; omega
    have hs : Hid (sym R p = R) := by show sym R p = R; unfold sym; rw [if_neg h]
    clear h
    go_enter Try.func71, Try.ntmps71
    go_wp2_with fail
    refine (c.out _).mono ?_
    rintro e w' ⟨rfl, rfl⟩
    go_wp2_with fail
    go_ret
    exact ⟨by rw [hs.out]; rfl, rfl⟩

end Go.Proofs.Ytbgoiflkpefckaa
