/- Residues and powers: the model's mdMod, mdAsked, mdPower; the program's ResidueOf, PowerOf. -/
import Derived.Test.YtbgoiflkpefckaaRsPrime
namespace Go.Proofs.Ytbgoiflkpefckaa
open Go.RowKit Go.Joins

/-- p is a prime up to 997. -/
def IsP (p : Int) : Prop := ∃ q : Nat, p = q ∧ Pr q ∧ q ≤ 997
def IsA (a : Int) : Prop := -1000000000000 ≤ a ∧ a ≤ 1000000000000

theorem IsP.nat {q : Nat} : IsP (q : Int) ↔ (Pr q ∧ q ≤ 997) := ⟨fun ⟨x, h1, h2, h3⟩ => by
  have : q = x := by omega
  subst this
  exact ⟨h2, h3⟩, fun ⟨h1, h2⟩ => ⟨q, rfl, h1, h2⟩⟩

theorem mdPrime_all (p : Int) (w : World) (B : Bool) (hB : B = true ↔ IsP p) :
    Calls Try.prog 42 #[.int .i64 p] w fun e w' => e = .returned (.bool B) ∧ w = w' := by
  by_cases h : p < 2 ∨ 997 < p
  · have hf : B = false := by
      cases B
      · rfl
      · obtain ⟨q, h1, h2, h3⟩ := hB.1 rfl
        have := h2.1
        omega
    subst hf
    exact mdPrime_out p w h
  · obtain ⟨q, rfl⟩ : ∃ q : Nat, p = q := ⟨p.toNat, by omega⟩
    rw [IsP.nat] at hB
    exact mdPrime_any q w (by omega) (by omega) B ⟨fun e => (hB.1 e).1, fun e => hB.2 ⟨e, by omega⟩⟩

theorem isPrime_all (p : Int) (w : World) (B : Bool) (hB : B = true ↔ IsP p) :
    Calls Try.prog 45 #[.int .i64 p] w fun e w' => e = .returned (.bool B) ∧ w = w' := by
  by_cases h : p < 2 ∨ 997 < p
  · have hf : B = false := by
      cases B
      · rfl
      · obtain ⟨q, h1, h2, h3⟩ := hB.1 rfl
        have := h2.1
        omega
    subst hf
    exact isPrime_out p w h
  · obtain ⟨q, rfl⟩ : ∃ q : Nat, p = q := ⟨p.toNat, by omega⟩
    rw [IsP.nat] at hB
    exact isPrime_any q w (by omega) (by omega) B ⟨fun e => (hB.1 e).1, fun e => hB.2 ⟨e, by omega⟩⟩

theorem mod_facts (a p : Int) (hp : 2 ≤ p) : -p < a.tmod p ∧ a.tmod p < p ∧ (a.tmod p + p).tmod p = a % p := by
  have h1 : 0 ≤ a → a.tmod p = a % p := fun h => Int.tmod_eq_emod_of_nonneg h
  have h2 : a ≤ 0 → a.tmod p = -((-a) % p) := fun h => by
    rw [show a = -(-a) from by omega, Int.neg_tmod, Int.tmod_eq_emod_of_nonneg (by omega), Int.neg_neg]
  have h3 : 0 ≤ a % p := Int.emod_nonneg _ (by omega)
  have h4 : a % p < p := Int.emod_lt_of_pos _ (by omega)
  have h5 : 0 ≤ (-a) % p := Int.emod_nonneg _ (by omega)
  have h6 : (-a) % p < p := Int.emod_lt_of_pos _ (by omega)
  have h7 : -p < a.tmod p ∧ a.tmod p < p := by
    by_cases h : 0 ≤ a
    · have := h1 h; omega
    · have := h2 (by omega); omega
  refine ⟨h7.1, h7.2, ?_⟩
  rw [Int.tmod_eq_emod_of_nonneg (by omega), Int.add_emod_right]
  have h8 : a.tmod p = a - p * (a.tdiv p) := by have := Int.mul_tdiv_add_tmod a p; omega
  rw [h8, Int.sub_mul_emod_self_left]

set_option maxHeartbeats 400000 in
theorem mdMod_any (a : Int) (p : Nat) (w : World) (ha : IsA a) (hp : 2 ≤ p) (hp2 : p ≤ 997) : ∀ r : Nat, (r : Int) = a % p →
    Calls Try.prog 69 #[.int .i64 a, .int .i64 (p : Int)] w fun e w' => e = .returned (.int .i64 (r : Int)) ∧ w = w' := by
  intro r hr
  obtain ⟨m1, m2, m3⟩ := mod_facts a p (by omega)
  rw [← hr] at m3
  obtain ⟨t, ht⟩ : ∃ t, t = a.tmod p := ⟨_, rfl⟩
  rw [← ht] at m1 m2 m3
  obtain ⟨a1, a2⟩ := ha
  have ht' : a.tmod p = t := ht.symm
  clear ht hr
  go_enter Try.func69, Try.ntmps69
  go_wp2
  go_ret
  exact ⟨rfl, rfl⟩

set_option maxHeartbeats 400000 in
theorem residueModulo_any (a : Int) (p : Nat) (w : World) (ha : IsA a) (hp : 2 ≤ p) (hp2 : p ≤ 997) : ∀ r : Nat, (r : Int) = a % p →
    Calls Try.prog 73 #[.int .i64 a, .int .i64 (p : Int)] w fun e w' => e = .returned (.int .i64 (r : Int)) ∧ w = w' := by
  intro r hr
  obtain ⟨m1, m2, m3⟩ := mod_facts a p (by omega)
  rw [← hr] at m3
  obtain ⟨t, ht⟩ : ∃ t, t = a.tmod p := ⟨_, rfl⟩
  rw [← ht] at m1 m2 m3
  obtain ⟨a1, a2⟩ := ha
  have ht' : a.tmod p = t := ht.symm
  clear ht hr
  go_enter Try.func73, Try.ntmps73
  go_wp2
  go_ret
  exact ⟨rfl, rfl⟩

set_option maxHeartbeats 400000 in
theorem residueOf_yes (a : Int) (p : Nat) (w : World) (hp : Pr p) (hp2 : p ≤ 997) (ha : IsA a) : ∀ r : Nat, (r : Int) = a % p →
    Calls Try.prog 81 #[.int .i64 a, .int .i64 (p : Int)] w fun e w' => e = .returned (.tuple #[.int .i64 (r : Int), .bool true]) ∧ w = w' := by
  intro r hr
  have c2 := fun W => residueModulo_any a p W ha hp.1 hp2 r hr
  obtain ⟨a1, a2⟩ := ha
  have c := fun W => isPrime_all p W true ⟨fun _ => IsP.nat.2 ⟨hp, hp2⟩, fun _ => rfl⟩
  replace c := Lib.hid c
  replace c2 := Lib.hid c2
  clear hp hr
  go_enter Try.func81, Try.ntmps81
  go_wp2_with fail
  refine (c.out _).mono ?_
  rintro e w' ⟨rfl, rfl⟩
  go_wp2_with fail
  refine (c2.out _).mono ?_
  rintro e w' ⟨rfl, rfl⟩
  go_wp2_with fail
  go_ret2
  exact ⟨rfl, rfl⟩

set_option maxHeartbeats 400000 in
theorem residueOf_no (a p : Int) (w : World) (h : ¬ (IsP p ∧ IsA a)) :
    Calls Try.prog 81 #[.int .i64 a, .int .i64 p] w fun e w' => e = .returned (.tuple #[.int .i64 0, .bool false]) ∧ w = w' := by
  by_cases h1 : a < -1000000000000
  · clear h
    go_enter Try.func81, Try.ntmps81
    go_wp2_with fail
    go_ret2
    exact ⟨rfl, rfl⟩
  · by_cases h2 : 1000000000000 < a
    · clear h
      go_enter Try.func81, Try.ntmps81
      go_wp2_with fail
      go_ret2
      exact ⟨rfl, rfl⟩
    · have hp : ¬ IsP p := fun hp => h ⟨hp, by omega, by omega⟩
      have c := fun W => isPrime_all p W false ⟨fun e => (by cases e), fun e => absurd e hp⟩
      replace c := Lib.hid c
      clear hp h
      go_enter Try.func81, Try.ntmps81
      go_wp2_with fail
      refine (c.out _).mono ?_
      rintro e w' ⟨rfl, rfl⟩
      go_wp2_with fail
      go_ret2
      exact ⟨rfl, rfl⟩

theorem mm {x y a b p : Nat} (h1 : x % p = y % p) (h2 : a % p = b % p) : x * a % p = y * b % p := by
  rw [Nat.mul_mod, h1, h2, ← Nat.mul_mod]
theorem pw_sq (x p n : Nat) : (x * x % p) ^ n % p = x ^ (2 * n) % p := by
  rw [← Nat.pow_mod, Nat.pow_mul, Nat.pow_two]
theorem pw_even {o x p n : Nat} (h : n % 2 = 0) : o * (x * x % p) ^ (n / 2) % p = o * x ^ n % p := by
  refine mm rfl ?_
  rw [pw_sq, show 2 * (n / 2) = n from by omega]
theorem pw_odd {o x p n : Nat} (h : n % 2 = 1) : o * x % p * (x * x % p) ^ (n / 2) % p = o * x ^ n % p := by
  have e : o * x ^ n = o * x * x ^ (2 * (n / 2)) := by
    conv => lhs; rw [show n = 1 + 2 * (n / 2) from by omega, Nat.pow_add, Nat.pow_one, ← Nat.mul_assoc]
  rw [e]
  exact mm (Nat.mod_mod _ _) (pw_sq x p (n / 2))
theorem small_mul {o x : Nat} (h1 : o < 997) (h2 : x < 997) : 0 ≤ (o : Int) * x ∧ (o : Int) * x ≤ 994009 := by
  have e : ((o * x : Nat) : Int) = (o : Int) * x := Int.natCast_mul o x
  have := Nat.mul_le_mul (Nat.le_of_lt h1) (Nat.le_of_lt h2)
  omega
theorem cast_mm (o x p : Nat) : (o : Int) * x % p = ((o * x % p : Nat) : Int) := by rw [Int.natCast_emod, Int.natCast_mul]

set_option maxHeartbeats 1000000 in
theorem mdPower_any (a : Int) (n p : Nat) (w : World) (ha : IsA a) (hp : 2 ≤ p) (hp2 : p ≤ 997) (hn : n ≤ 1000000000) : ∀ r R : Nat, (r : Int) = a % p → r ^ n % p = R →
    Calls Try.prog 80 #[.int .i64 a, .int .i64 (n : Int), .int .i64 (p : Int)] w fun e w' => e = .returned (.int .i64 (R : Int)) ∧ w = w' := by
  intro r R hr hR
  have hrp : r < p := by have := Int.emod_lt_of_pos a (show (0 : Int) < p by omega); omega
  have c := fun W => mdMod_any a p W ha hp hp2 r hr
  replace c := Lib.hid c
  replace hR := Lib.hid hR
  clear hr
  go_enter Try.func80, Try.ntmps80
  go_wp2_with fail
  refine (c.out _).mono ?_
  rintro e w' ⟨rfl, rfl⟩
  go_wp2_with fail
  go_loop [1, 7, 8] (fun u o x => ∃ m k y : Nat, m ≤ 1000000000 ∧ k < p ∧ y < p ∧ Hid (k * y ^ m % p = R) ∧ u = .int .i64 m ∧ o = .int .i64 k ∧ x = .int .i64 y) (fun u _ _ => (intOf u).toNat)
  case atStart => exact ⟨n, 1, r, hn, by omega, hrp, by show 1 * r ^ n % p = R; rw [Nat.one_mul]; exact hR.out, rfl, rfl, rfl⟩
  case round =>
    obtain ⟨m, k, y, hm, hk, hy, hi, rfl, rfl, rfl⟩ := hrel
    clear hR
    obtain ⟨s1, s2⟩ := small_mul (o := k) (x := y) (by omega) (by omega)
    obtain ⟨s3, s4⟩ := small_mul (o := y) (x := y) (by omega) (by omega)
    by_cases h0 : 0 < m
    · have hyy : y * y % p < p := Nat.mod_lt _ (by omega)
      have hky : k * y % p < p := Nat.mod_lt _ (by omega)
      have q1 := Lib.hid (cast_mm k y p)
      have q2 := Lib.hid (cast_mm y y p)
      by_cases hodd : m % 2 = 1
      · have e1 : ((m : Int) % 2 == 1) = true := by rw [beq_iff_eq]; omega
        have hi2 : Hid (k * y % p * (y * y % p) ^ (m / 2) % p = R) := (pw_odd hodd).trans hi.out
        clear hi hodd
        go_wp2_with fail
        go_round
        case rel => exact ⟨m / 2, k * y % p, y * y % p, by omega, hky, hyy, hi2, by simp, by rw [q1.out], by rw [q2.out]⟩
        case measure => simp [intOf]; omega
      · have e1 : ((m : Int) % 2 == 1) = false := by rw [beq_eq_false_iff_ne]; omega
        have hi2 : Hid (k * (y * y % p) ^ (m / 2) % p = R) := (pw_even (by omega)).trans hi.out
        clear hi hodd
        go_wp2_with fail
        go_round
        case rel => exact ⟨m / 2, k, y * y % p, by omega, hk, hyy, hi2, by simp, rfl, by rw [q2.out]⟩
        case measure => simp [intOf]; omega
    · have hf : Hid (k = R) := by
        have := hi.out
        rw [show m = 0 from by omega, Nat.pow_zero, Nat.mul_one, Nat.mod_eq_of_lt hk] at this
        exact this
      have e2 : (k : Int) % p = k := Int.emod_eq_of_lt (by omega) (by omega)
      clear hi
      go_wp2_with fail
      go_ret
      exact ⟨ret_nat hf.out, rfl⟩
end Go.Proofs.Ytbgoiflkpefckaa
