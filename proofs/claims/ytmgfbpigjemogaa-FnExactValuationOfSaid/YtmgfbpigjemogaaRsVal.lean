/- ValuationOf: the model's mdValuation, the program's divideOut, and the law. -/
import Derived.Test.YtmgfbpigjemogaaRsPow
namespace Go.Proofs.Ytmgfbpigjemogaa
open Go.RowKit Go.Joins

/-- a = r p ^ n, p does not divide r. -/
def Val (a p : Int) (n : Nat) (r : Int) : Prop := a = r * p ^ n ∧ ¬ p ∣ r

theorem Val.step {a p : Int} {n : Nat} {r : Int} (h : Val a p (n + 1) r) (hp : 2 ≤ p) : ∃ b, Val b p n r ∧ a.tmod p = 0 ∧ a.tdiv p = b ∧ b.natAbs ≤ a.natAbs := by
  have e : a = r * p ^ n * p := by rw [h.1, Int.pow_succ, Int.mul_assoc]
  refine ⟨r * p ^ n, ⟨rfl, h.2⟩, by rw [e]; exact Int.mul_tmod_left _ _, by rw [e]; exact Int.mul_tdiv_cancel _ (by omega), ?_⟩
  rw [e, Int.natAbs_mul (r * p ^ n) p]
  exact Nat.le_mul_of_pos_right _ (by omega)
theorem Val.stop {a p r : Int} (h : Val a p 0 r) : a = r ∧ a.tmod p ≠ 0 := by
  have e : a = r := by rw [h.1, Int.pow_zero, Int.mul_one]
  exact ⟨e, fun h0 => h.2 (by rw [← e]; exact Int.dvd_of_tmod_eq_zero h0)⟩
theorem Val.exist (a p : Int) (hp : 2 ≤ p) (h0 : a ≠ 0) : ∃ n r, Val a p n r ∧ n ≤ a.natAbs := by
  obtain ⟨n, r, h1, h2, h3⟩ := val_exists p hp a.natAbs a (Nat.le_refl _) h0
  exact ⟨n, r, ⟨h1, h2⟩, h3⟩

set_option maxHeartbeats 1000000 in
theorem mdValuation_any (a : Int) (p : Nat) (w : World) (ha : IsA a) (hp : 2 ≤ p) (hp2 : p ≤ 10000000000) : ∀ (n : Nat) (r : Int), Val a p n r → n ≤ 1000000000000 →
    Calls Try.prog 38 #[.int .i64 a, .int .i64 (p : Int)] w fun e w' => e = .returned (.int .i64 (n : Int)) ∧ w = w' := by
  intro n r hv hn
  replace hv := Lib.hid hv
  have p0 : ((p : Int) == 0) = false := beq_eq_false_iff_ne.2 (by omega)
  have p1 : (p : Int) ≠ 0 := by omega
  go_enter Try.func38, Try.ntmps38
  go_wp2_with fail
  go_loop [0, 5] (fun u c => ∃ (x : Int) (k : Nat), k ≤ n ∧ Hid (Val x p (n - k) r) ∧ -1000000000000 ≤ x ∧ x ≤ 1000000000000 ∧ u = .int .i64 x ∧ c = .int .i64 k) (fun _ c => n - (intOf c).toNat)
  case atStart => exact ⟨a, 0, by omega, hv.out, ha.1, ha.2, rfl, rfl⟩
  case round =>
    obtain ⟨x, k, hk, hi, x1, x2, rfl, rfl⟩ := hrel
    clear hv
    by_cases hlt : k < n
    · obtain ⟨m, hm⟩ : ∃ m, n - k = m + 1 := ⟨n - k - 1, by omega⟩
      obtain ⟨b, hb, t0, t1, t2⟩ := Val.step (n := m) (by rw [← hm]; exact hi.out) (show (2 : Int) ≤ p by omega)
      have hb2 : Hid (Val b p (n - (k + 1)) r) := by rw [show n - (k + 1) = m from by omega]; exact hb
      have b1 : -1000000000000 ≤ b ∧ b ≤ 1000000000000 := by omega
      obtain ⟨b1, b3⟩ := b1
      clear hi hb hm t2
      go_wp2_with fail
      go_round
      case rel => exact ⟨b, k + 1, by omega, hb2, b1, b3, rfl, by go_num⟩
      case measure => simp [intOf]; omega
    · have hkn : Hid (k = n) := by show k = n; omega
      obtain ⟨-, t0⟩ := Val.stop (a := x) (p := p) (r := r) (by have := hi.out; rw [show n - k = 0 from by omega] at this; exact this)
      have t1 : (x.tmod p == 0) = false := beq_eq_false_iff_ne.2 t0
      clear hi hlt
      go_wp2_with fail
      go_ret
      exact ⟨by rw [hkn.out]; rfl, rfl⟩

set_option maxHeartbeats 1000000 in
theorem divideOut_any (a : Int) (p : Nat) (w : World) (ha : IsA a) (hp : 2 ≤ p) (hp2 : p ≤ 10000000000) : ∀ (n : Nat) (r : Int), Val a p n r → n ≤ 1000000000000 →
    Calls Try.prog 39 #[.int .i64 a, .int .i64 (p : Int)] w fun e w' => e = .returned (.tuple #[.int .i64 (n : Int), .int .i64 r]) ∧ w = w' := by
  intro n r hv hn
  replace hv := Lib.hid hv
  have p0 : ((p : Int) == 0) = false := beq_eq_false_iff_ne.2 (by omega)
  have p1 : (p : Int) ≠ 0 := by omega
  go_enter Try.func39, Try.ntmps39
  go_wp2_with fail
  go_loop [0, 6] (fun u c => ∃ (x : Int) (k : Nat), k ≤ n ∧ Hid (Val x p (n - k) r) ∧ -1000000000000 ≤ x ∧ x ≤ 1000000000000 ∧ u = .int .i64 x ∧ c = .int .i64 k) (fun _ c => n - (intOf c).toNat)
  case atStart => exact ⟨a, 0, by omega, hv.out, ha.1, ha.2, rfl, rfl⟩
  case round =>
    obtain ⟨x, k, hk, hi, x1, x2, rfl, rfl⟩ := hrel
    clear hv
    by_cases hlt : k < n
    · obtain ⟨m, hm⟩ : ∃ m, n - k = m + 1 := ⟨n - k - 1, by omega⟩
      obtain ⟨b, hb, t0, t1, t2⟩ := Val.step (n := m) (by rw [← hm]; exact hi.out) (show (2 : Int) ≤ p by omega)
      have hb2 : Hid (Val b p (n - (k + 1)) r) := by rw [show n - (k + 1) = m from by omega]; exact hb
      have b1 : -1000000000000 ≤ b ∧ b ≤ 1000000000000 := by omega
      obtain ⟨b1, b3⟩ := b1
      clear hi hb hm t2
      go_wp2_with fail
      go_round
      case rel => exact ⟨b, k + 1, by omega, hb2, b1, b3, rfl, by go_num⟩
      case measure => simp [intOf]; omega
    · have hkn : Hid (k = n) := by show k = n; omega
      obtain ⟨hx, t0⟩ := Val.stop (a := x) (p := p) (r := r) (by have := hi.out; rw [show n - k = 0 from by omega] at this; exact this)
      have t1 : (x.tmod p == 0) = false := beq_eq_false_iff_ne.2 t0
      replace hx := Lib.hid hx
      clear hi hlt
      go_wp2_with fail
      go_ret2
      exact ⟨by rw [hkn.out, hx.out]; rfl, rfl⟩

set_option maxHeartbeats 400000 in
theorem specValuationOf_yes (a : Int) (p : Nat) (w : World) (ha : IsA a) (hp : Pr p) (hp2 : p ≤ 997) (h0 : a ≠ 0) : ∀ (n : Nat) (r : Int), Val a p n r → n ≤ 1000000000000 →
    Calls Try.prog 25 #[.int .i64 a, .int .i64 (p : Int)] w fun e w' => e = .returned (.tuple #[.int .i64 (n : Int), .bool true]) ∧ w = w' := by
  intro n r hv hn
  have c := fun W => mdAsked_yes a p W (IsP.nat.2 ⟨hp, hp2⟩) ha
  have c2 := fun W => mdValuation_any a p W ha hp.1 (by omega) n r hv hn
  replace c := Lib.hid c
  replace c2 := Lib.hid c2
  have e0 : (a == 0) = false := beq_eq_false_iff_ne.2 h0
  clear hp hv h0
  go_enter Try.func25, Try.ntmps25
  go_wp2_with fail
  refine (c.out _).mono ?_
  rintro e w' ⟨rfl, rfl⟩
  go_wp2_with fail
  refine (c2.out _).mono ?_
  rintro e w' ⟨rfl, rfl⟩
  go_wp2_with fail
  go_ret2
  exact ⟨rfl, rfl⟩

set_option maxHeartbeats 400000 in
theorem specValuationOf_zero (p : Nat) (w : World) (hp : Pr p) (hp2 : p ≤ 997) :
    Calls Try.prog 25 #[.int .i64 0, .int .i64 (p : Int)] w fun e w' => e = .returned (.tuple #[.int .i64 0, .bool false]) ∧ w = w' := by
  have c := fun W => mdAsked_yes 0 p W (IsP.nat.2 ⟨hp, hp2⟩) ⟨by omega, by omega⟩
  replace c := Lib.hid c
  clear hp
  go_enter Try.func25, Try.ntmps25
  go_wp2_with fail
  refine (c.out _).mono ?_
  rintro e w' ⟨rfl, rfl⟩
  go_wp2_with fail
  go_ret2
  exact ⟨rfl, rfl⟩

set_option maxHeartbeats 400000 in
theorem specValuationOf_bad (a p : Int) (w : World) (h : ¬ (IsP p ∧ IsA a)) :
    Calls Try.prog 25 #[.int .i64 a, .int .i64 p] w fun e w' => e = .returned (.tuple #[.int .i64 0, .bool false]) ∧ w = w' := by
  have c := fun W => mdAsked_no a p W h
  replace c := Lib.hid c
  clear h
  go_enter Try.func25, Try.ntmps25
  go_wp2_with fail
  refine (c.out _).mono ?_
  rintro e w' ⟨rfl, rfl⟩
  go_wp2_with fail
  go_ret2
  exact ⟨rfl, rfl⟩

set_option maxHeartbeats 400000 in
theorem valuationOf_yes (a : Int) (p : Nat) (w : World) (ha : IsA a) (hp : Pr p) (hp2 : p ≤ 997) (h0 : a ≠ 0) : ∀ (n : Nat) (r : Int), Val a p n r → n ≤ 1000000000000 →
    Calls Try.prog 26 #[.int .i64 a, .int .i64 (p : Int)] w fun e w' => e = .returned (.tuple #[.int .i64 (n : Int), .bool true]) ∧ w = w' := by
  intro n r hv hn
  obtain ⟨s, hs, _⟩ := res_nat a hp.1
  have c := fun W => residueOf_yes a p W hp hp2 ha s hs
  have c2 := fun W => divideOut_any a p W ha hp.1 (by omega) n r hv hn
  replace c := Lib.hid c
  replace c2 := Lib.hid c2
  have e0 : (a == 0) = false := beq_eq_false_iff_ne.2 h0
  clear hp hv h0 hs
  go_enter Try.func26, Try.ntmps26
  go_wp2_with fail
  refine (c.out _).mono ?_
  rintro e w' ⟨rfl, rfl⟩
  go_wp2_with fail
  refine (c2.out _).mono ?_
  rintro e w' ⟨rfl, rfl⟩
  go_wp2_with fail
  go_ret2
  exact ⟨rfl, rfl⟩

set_option maxHeartbeats 400000 in
theorem valuationOf_zero (p : Nat) (w : World) (hp : Pr p) (hp2 : p ≤ 997) :
    Calls Try.prog 26 #[.int .i64 0, .int .i64 (p : Int)] w fun e w' => e = .returned (.tuple #[.int .i64 0, .bool false]) ∧ w = w' := by
  have c := fun W => residueOf_yes 0 p W hp hp2 ⟨by omega, by omega⟩ 0 (by simp)
  replace c := Lib.hid c
  clear hp
  go_enter Try.func26, Try.ntmps26
  go_wp2_with fail
  refine (c.out _).mono ?_
  rintro e w' ⟨rfl, rfl⟩
  go_wp2_with fail
  go_ret2
  exact ⟨rfl, rfl⟩

set_option maxHeartbeats 400000 in
theorem valuationOf_bad (a p : Int) (w : World) (h : ¬ (IsP p ∧ IsA a)) :
    Calls Try.prog 26 #[.int .i64 a, .int .i64 p] w fun e w' => e = .returned (.tuple #[.int .i64 0, .bool false]) ∧ w = w' := by
  have c := fun W => residueOf_no a p W h
  replace c := Lib.hid c
  clear h
  go_enter Try.func26, Try.ntmps26
  go_wp2_with fail
  refine (c.out _).mono ?_
  rintro e w' ⟨rfl, rfl⟩
  go_wp2_with fail
  go_ret2
  exact ⟨rfl, rfl⟩

theorem lawValuationOf_any (z0 z1 : Int) (w : World) (_h0 : -9223372036854775808 ≤ z0 ∧ z0 ≤ 9223372036854775807) (_h1 : -9223372036854775808 ≤ z1 ∧ z1 ≤ 9223372036854775807) :
    Calls Try.prog 10 #[.int .i64 z0, .int .i64 z1] w fun e w' => e = .returned (.bool true) ∧ Below w.heap.size w w' := by
  by_cases h : IsP z1 ∧ IsA z0
  · obtain ⟨⟨p, rfl, hp, hp2⟩, ha⟩ := h
    by_cases h0 : z0 = 0
    · subst h0
      exact lawValuationOf_core 0 p w 0 false (fun W => givesIntOk_of (specValuationOf_zero p W hp hp2)) (fun W => givesIntOk_of (valuationOf_zero p W hp hp2))
    · obtain ⟨n, r, hv, hn⟩ := Val.exist z0 p (by have := hp.1; omega) h0
      have hn2 : n ≤ 1000000000000 := by have := ha.1; have := ha.2; omega
      exact lawValuationOf_core z0 p w _ true (fun W => givesIntOk_of (specValuationOf_yes z0 p W ha hp hp2 h0 n r hv hn2)) (fun W => givesIntOk_of (valuationOf_yes z0 p W ha hp hp2 h0 n r hv hn2))
  · exact lawValuationOf_core z0 z1 w 0 false (fun W => givesIntOk_of (specValuationOf_bad z0 z1 W h)) (fun W => givesIntOk_of (valuationOf_bad z0 z1 W h))
end Go.Proofs.Ytmgfbpigjemogaa
