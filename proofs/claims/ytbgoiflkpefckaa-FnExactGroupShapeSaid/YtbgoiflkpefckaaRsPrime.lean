/- Primes: the model's mdPrime, the program's leastFactor and IsPrimeNumber. -/
import Derived.Test.YtbgoiflkpefckaaMem
import Derived.Test.YtbgoiflkpefckaaRsMath
import Derived.IntWalk
namespace Go.Proofs.Ytbgoiflkpefckaa
open Go.RowKit Go.Joins

theorem sqi {d b : Nat} (h : d ≤ b) : 0 ≤ (d : Int) * d ∧ (d : Int) * d ≤ (b : Int) * b := by
  have h1 : ((d * d : Nat) : Int) = (d : Int) * d := Int.natCast_mul d d
  have h2 : ((b * b : Nat) : Int) = (b : Int) * b := Int.natCast_mul b b
  have h3 := Nat.mul_le_mul h h
  omega
theorem sq_yes {d n : Nat} (h : d * d ≤ n) : decide ((d : Int) * d ≤ n) = true := by
  have h1 : ((d * d : Nat) : Int) = (d : Int) * d := Int.natCast_mul d d
  simp only [decide_eq_true_eq]; omega
theorem sq_no {d n : Nat} (h : ¬ d * d ≤ n) : decide ((d : Int) * d ≤ n) = false := by
  have h1 : ((d * d : Nat) : Int) = (d : Int) * d := Int.natCast_mul d d
  simp only [decide_eq_false_iff_not]; omega
theorem rem_yes {n d : Nat} (h : n % d = 0) : ((n : Int) % d == 0) = true := by rw [beq_iff_eq]; omega
theorem rem_no {n d : Nat} (h : n % d ≠ 0) : ((n : Int) % d == 0) = false := by rw [beq_eq_false_iff_ne]; omega

set_option maxHeartbeats 400000 in
theorem l1In_yes (n lo hi : Int) (w : World) (h1 : lo ≤ n) (h2 : n ≤ hi) :
    Calls Try.prog 62 #[.int .i64 n, .int .i64 lo, .int .i64 hi] w fun e w' => e = .returned (.bool true) ∧ w = w' := by
  go_enter Try.func62, Try.ntmps62
  go_wp2
  go_ret
  exact ⟨rfl, rfl⟩

set_option maxHeartbeats 400000 in
theorem l1In_no (n lo hi : Int) (w : World) (h : n < lo ∨ hi < n) :
    Calls Try.prog 62 #[.int .i64 n, .int .i64 lo, .int .i64 hi] w fun e w' => e = .returned (.bool false) ∧ w = w' := by
  by_cases h1 : lo ≤ n
  · have d : decide (n ≤ hi) = false := by simp; omega
    clear h
    go_enter Try.func62, Try.ntmps62
    go_wp2
    go_ret
    exact ⟨rfl, rfl⟩
  · clear h
    go_enter Try.func62, Try.ntmps62
    go_wp2
    go_ret
    exact ⟨rfl, rfl⟩

theorem ret_bool {a b : Bool} (h : a = b) : Ending.returned (.bool a) = .returned (.bool b) := by rw [h]
theorem ret_nat {a b : Nat} (h : a = b) : Ending.returned (.int .i64 (a : Int)) = .returned (.int .i64 (b : Int)) := by rw [h]

set_option maxHeartbeats 1000000 in
theorem mdPrime_any (p : Nat) (w : World) (h1 : 2 ≤ p) (h2 : p ≤ 997) : ∀ B : Bool, (B = true ↔ Pr p) →
    Calls Try.prog 42 #[.int .i64 (p : Int)] w fun e w' => e = .returned (.bool B) ∧ w = w' := by
  intro B hB
  replace hB := Lib.hid hB
  go_enter Try.func42, Try.ntmps42
  go_wp2_with fail
  refine (l1In_yes _ _ _ _ (by omega) (by omega)).mono ?_
  rintro e w' ⟨rfl, rfl⟩
  go_wp2_with fail
  go_loop [3] (fun x => ∃ d : Nat, 2 ≤ d ∧ d ≤ 1000 ∧ Hid (NoDiv d p) ∧ x = .int .i64 d) (fun x => 1000 - (intOf x).toNat)
  case atStart => exact ⟨2, by omega, by omega, NoDiv.two p, rfl⟩
  case round =>
    obtain ⟨d, hd2, hd, hn, rfl⟩ := hrel
    obtain ⟨b0, b1⟩ := sqi hd
    by_cases hc : d * d ≤ p
    · have hdd : d < 1000 := by
        apply Nat.lt_of_not_le; intro hle
        have := Nat.mul_le_mul hle hle
        omega
      have c1 := sq_yes hc
      by_cases hm : p % d = 0
      · have c2 := rem_yes hm
        have hf : Hid (B = false) := by
          have := hB.out
          have hnp := Pr.not hd2 hc hm
          show B = false
          cases B
          · rfl
          · exact absurd (this.1 rfl) hnp
        clear hc hm hB
        go_wp2_with fail
        go_ret
        exact ⟨ret_bool hf.out.symm, rfl⟩
      · have c2 := rem_no hm
        have hn2 : Hid (NoDiv (d + 1) p) := NoDiv.succ hn.out hm
        clear hc hm
        go_wp2_with fail
        go_round
        case rel => exact ⟨d + 1, by omega, by omega, hn2, by go_num⟩
        case measure => simp [intOf]; omega
    · have c1 := sq_no hc
      have hf : Hid (B = true) := (hB.out).2 (Pr.of hn.out h1 (by omega))
      clear hc hB
      go_wp2_with fail
      go_ret
      exact ⟨ret_bool hf.out.symm, rfl⟩

set_option maxHeartbeats 400000 in
theorem mdPrime_out (p : Int) (w : World) (h : p < 2 ∨ 997 < p) :
    Calls Try.prog 42 #[.int .i64 p] w fun e w' => e = .returned (.bool false) ∧ w = w' := by
  go_enter Try.func42, Try.ntmps42
  go_wp2_with fail
  refine (l1In_no _ _ _ _ h).mono ?_
  rintro e w' ⟨rfl, rfl⟩
  go_wp2_with fail
  go_ret
  exact ⟨rfl, rfl⟩

set_option maxHeartbeats 1000000 in
theorem leastFactor_any (n f : Nat) (w : World) (hn : 2 ≤ n) (hn2 : n ≤ 10000000000) (hf : 2 ≤ f) (hf2 : f ≤ 100001) (hnd : NoDiv f n) : ∀ q, Least q n →
    Calls Try.prog 70 #[.int .i64 (n : Int), .int .i64 (f : Int)] w fun e w' => e = .returned (.int .i64 (q : Int)) ∧ w = w' := by
  intro q hq
  replace hq := Lib.hid hq
  replace hnd := Lib.hid hnd
  go_enter Try.func70, Try.ntmps70
  go_wp2_with fail
  go_loop [5] (fun x => ∃ d : Nat, 2 ≤ d ∧ d ≤ 100001 ∧ Hid (NoDiv d n) ∧ x = .int .i64 d) (fun x => 100001 - (intOf x).toNat)
  case atStart => exact ⟨f, hf, hf2, hnd.out, rfl⟩
  case round =>
    obtain ⟨d, hd2, hd, hi, rfl⟩ := hrel
    obtain ⟨b0, b1⟩ := sqi hd
    by_cases hc : d * d ≤ n
    · have hdd : d < 100001 := by
        apply Nat.lt_of_not_le; intro hle
        have := Nat.mul_le_mul hle hle
        omega
      have c1 := sq_yes hc
      by_cases hm : n % d = 0
      · have c2 := rem_yes hm
        have hf : Hid (d = q) := hq.out.eq hi.out hd2 hm
        clear hc hm hq
        go_wp2_with fail
        go_ret
        exact ⟨ret_nat hf.out, rfl⟩
      · have c2 := rem_no hm
        have hi2 : Hid (NoDiv (d + 1) n) := NoDiv.succ hi.out hm
        clear hc hm
        go_wp2_with fail
        go_round
        case rel => exact ⟨d + 1, by omega, by omega, hi2, by go_num⟩
        case measure => simp [intOf]; omega
    · have c1 := sq_no hc
      have hf : Hid (n = q) := (hq.out.self hi.out hn (by omega)).symm
      clear hc hq
      go_wp2_with fail
      go_ret
      exact ⟨ret_nat hf.out, rfl⟩

set_option maxHeartbeats 400000 in
theorem isPrime_any (p : Nat) (w : World) (h1 : 2 ≤ p) (h2 : p ≤ 997) : ∀ B : Bool, (B = true ↔ Pr p) →
    Calls Try.prog 45 #[.int .i64 (p : Int)] w fun e w' => e = .returned (.bool B) ∧ w = w' := by
  intro B hB
  obtain ⟨q, hq, hqp⟩ := Least.exist h1
  have hb : ((q : Int) == p) = B := by
    have := hq.prime h1
    by_cases e : q = p
    · rw [hB.2 (this.1 e), e]; simp
    · have hf : B = false := by
        cases B
        · rfl
        · exact absurd (this.2 (hB.1 rfl)) e
      rw [hf, beq_eq_false_iff_ne]; omega
  replace hB := Lib.hid hB
  have c := fun W => leastFactor_any p 2 W h1 (by omega) (by omega) (by omega) (NoDiv.two p) q hq
  replace c := Lib.hid c
  clear hq
  have d1 : (2 : Int) ≤ p := by omega
  have d2 : (p : Int) ≤ 997 := by omega
  go_enter Try.func45, Try.ntmps45
  go_wp2_with fail
  refine (c.out _).mono ?_
  rintro e w' ⟨rfl, rfl⟩
  go_wp2_with fail
  go_ret
  exact ⟨rfl, rfl⟩

set_option maxHeartbeats 400000 in
theorem isPrime_out (p : Int) (w : World) (h : p < 2 ∨ 997 < p) :
    Calls Try.prog 45 #[.int .i64 p] w fun e w' => e = .returned (.bool false) ∧ w = w' := by
  by_cases h1 : 2 ≤ p
  · have h2 : ¬ p ≤ 997 := by omega
    clear h
    go_enter Try.func45, Try.ntmps45
    go_wp2_with fail
    go_ret
    exact ⟨rfl, rfl⟩
  · clear h
    go_enter Try.func45, Try.ntmps45
    go_wp2_with fail
    go_ret
    exact ⟨rfl, rfl⟩
end Go.Proofs.Ytbgoiflkpefckaa
