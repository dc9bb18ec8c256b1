/- LogarithmOf: the model's walk through the powers, the program's look-up; the law. -/
import Derived.Test.YtmgfbpigjemogaaRsOrd
namespace Go.Proofs.Ytmgfbpigjemogaa
open Go.RowKit Go.Joins Go.Maps

set_option maxHeartbeats 1000000 in
theorem specLog_yes (a b : Int) (p : Nat) (w : World) (ha : IsA a) (hb : IsA b) (hp : Pr p) (hp2 : p ≤ 997) : ∀ r g j : Nat, (r : Int) = a % p → (g : Int) = b % p → g < p → g ≠ 0 → j < p - 1 → g ^ j % p = r → (∀ k, k < j → g ^ k % p ≠ r) →
    Calls Try.prog 23 #[.int .i64 a, .int .i64 b, .int .i64 (p : Int)] w (GivesIntOk w j true) := by
  intro r g j hr hg hgp h0 hj hjr hjn
  have c := fun W => mdAsked_yes a p W (IsP.nat.2 ⟨hp, hp2⟩) ha
  have d := fun W => mdAsked_yes b p W (IsP.nat.2 ⟨hp, hp2⟩) hb
  have c2 := fun W => mdMod_any a p W ha hp.1 hp2 r hr
  have d2 := fun W => mdMod_any b p W hb hp.1 hp2 g hg
  replace c := Lib.hid c
  replace d := Lib.hid d
  replace c2 := Lib.hid c2
  replace d2 := Lib.hid d2
  have hp1 := hp.1
  have h00 : Hid (1 = g ^ 0 % p) := by show 1 = g ^ 0 % p; rw [Nat.pow_zero, hp.one]
  replace hjr := Lib.hid hjr
  replace hjn := Lib.hid hjn
  have e0 : ((g : Int) == 0) = false := by rw [beq_eq_false_iff_ne]; omega
  have p0 : ((p : Int) == 0) = false := beq_eq_false_iff_ne.2 (by omega)
  have p1 : (p : Int) ≠ 0 := by omega
  have p2 : p ≠ 0 := by omega
  clear hr hg hp h0
  go_enter Try.func23, Try.ntmps23
  go_wp2_with fail
  refine (c.out _).mono ?_
  rintro e w' ⟨rfl, rfl⟩
  go_wp2_with fail
  refine (d.out _).mono ?_
  rintro e w' ⟨rfl, rfl⟩
  go_wp2_with fail
  refine (d2.out _).mono ?_
  rintro e w' ⟨rfl, rfl⟩
  go_wp2_with fail
  go_loopw [8, 9] (fun x n wr => ∃ k y : Nat, k ≤ j ∧ y < p ∧ Hid (y = g ^ k % p) ∧ x = .int .i64 y ∧ n = .int .i64 k ∧ Below w.heap.size w wr) (fun _ n _ => 1000 - (intOf n).toNat)
  case atStart => exact ⟨0, 1, by omega, by omega, h00, rfl, rfl, Below.refl _ _⟩
  case round =>
    obtain ⟨k, y, hk, hy, hyk, rfl, rfl, hbl⟩ := hrel
    clear h00
    obtain ⟨s1, s2⟩ := small_mul (o := y) (x := g) (by omega) (by omega)
    have q2 : (y : Int).tmod p = y := by rw [Int.tmod_eq_emod_of_nonneg (by omega), Int.emod_eq_of_lt (by omega) (by omega)]
    have d1 : (k : Int) < (p : Int) - 1 := by omega
    by_cases hlt : k = j
    · have hkj : Hid (k = j) := hlt
      have e1 : ((y : Int) == (r : Int)) = true := by
        have h1 := hyk.out
        have h2 := hjr.out
        rw [hlt] at h1
        rw [beq_iff_eq]; omega
      clear hlt hyk hjr hjn
      go_wp2_with fail
      go_quiet ((go_at_call 28; exact quiet_left (c2.out _)))
      go_wp2_with fail
      go_ret2
      exact ⟨by rw [hkj.out]; rfl, Below.drewN' hbl _⟩
    · have e1 : ((y : Int) == (r : Int)) = false := by
        have h1 := hyk.out
        have h2 := hjn.out k (by omega)
        rw [beq_eq_false_iff_ne]; omega
      have hz : y * g % p < p := Nat.mod_lt _ (by omega)
      have q1 := Lib.hid (cast_mm y g p)
      have hz2 : Hid (y * g % p = g ^ (k + 1) % p) := by show y * g % p = g ^ (k + 1) % p; rw [hyk.out, pow_step]
      clear hyk hjr hjn
      go_wp2_with fail
      go_quiet ((go_at_call 28; exact quiet_left (c2.out _)))
      go_wp2_with fail
      refine (d2.out _).mono ?_
      rintro e w' ⟨rfl, rfl⟩
      go_wp2_with fail
      go_roundw
      case rel => exact ⟨k + 1, y * g % p, by omega, hz, hz2, by rw [q1.out], by go_num, Below.drewN' hbl _⟩
      case measure => simp [intOf]; omega

set_option maxHeartbeats 1000000 in
theorem specLog_no (a b : Int) (p : Nat) (w : World) (ha : IsA a) (hb : IsA b) (hp : Pr p) (hp2 : p ≤ 997) : ∀ r g : Nat, (r : Int) = a % p → (g : Int) = b % p → g < p → g ≠ 0 → (∀ k, g ^ k % p ≠ r) →
    Calls Try.prog 23 #[.int .i64 a, .int .i64 b, .int .i64 (p : Int)] w (GivesIntOk w 0 false) := by
  intro r g hr hg hgp h0 hjn
  have c := fun W => mdAsked_yes a p W (IsP.nat.2 ⟨hp, hp2⟩) ha
  have d := fun W => mdAsked_yes b p W (IsP.nat.2 ⟨hp, hp2⟩) hb
  have c2 := fun W => mdMod_any a p W ha hp.1 hp2 r hr
  have d2 := fun W => mdMod_any b p W hb hp.1 hp2 g hg
  replace c := Lib.hid c
  replace d := Lib.hid d
  replace c2 := Lib.hid c2
  replace d2 := Lib.hid d2
  have hp1 := hp.1
  have h00 : Hid (1 = g ^ 0 % p) := by show 1 = g ^ 0 % p; rw [Nat.pow_zero, hp.one]
  replace hjn := Lib.hid hjn
  have e0 : ((g : Int) == 0) = false := by rw [beq_eq_false_iff_ne]; omega
  have p0 : ((p : Int) == 0) = false := beq_eq_false_iff_ne.2 (by omega)
  have p1 : (p : Int) ≠ 0 := by omega
  have p2 : p ≠ 0 := by omega
  clear hr hg hp h0
  go_enter Try.func23, Try.ntmps23
  go_wp2_with fail
  refine (c.out _).mono ?_
  rintro e w' ⟨rfl, rfl⟩
  go_wp2_with fail
  refine (d.out _).mono ?_
  rintro e w' ⟨rfl, rfl⟩
  go_wp2_with fail
  refine (d2.out _).mono ?_
  rintro e w' ⟨rfl, rfl⟩
  go_wp2_with fail
  go_loopw [8, 9] (fun x n wr => ∃ k y : Nat, k ≤ p - 1 ∧ y < p ∧ Hid (y = g ^ k % p) ∧ x = .int .i64 y ∧ n = .int .i64 k ∧ Below w.heap.size w wr) (fun _ n _ => 1000 - (intOf n).toNat)
  case atStart => exact ⟨0, 1, by omega, by omega, h00, rfl, rfl, Below.refl _ _⟩
  case round =>
    obtain ⟨k, y, hk, hy, hyk, rfl, rfl, hbl⟩ := hrel
    clear h00
    obtain ⟨s1, s2⟩ := small_mul (o := y) (x := g) (by omega) (by omega)
    have q2 : (y : Int).tmod p = y := by rw [Int.tmod_eq_emod_of_nonneg (by omega), Int.emod_eq_of_lt (by omega) (by omega)]
    by_cases hlt : k < p - 1
    · have d1 : (k : Int) < (p : Int) - 1 := by omega
      have e1 : ((y : Int) == (r : Int)) = false := by
        have h1 := hyk.out
        have h2 := hjn.out k
        rw [beq_eq_false_iff_ne]; omega
      have hz : y * g % p < p := Nat.mod_lt _ (by omega)
      have q1 := Lib.hid (cast_mm y g p)
      have hz2 : Hid (y * g % p = g ^ (k + 1) % p) := by show y * g % p = g ^ (k + 1) % p; rw [hyk.out, pow_step]
      clear hyk hjn
      go_wp2_with fail
      go_quiet ((go_at_call 28; exact quiet_left (c2.out _)))
      go_wp2_with fail
      refine (d2.out _).mono ?_
      rintro e w' ⟨rfl, rfl⟩
      go_wp2_with fail
      go_roundw
      case rel => exact ⟨k + 1, y * g % p, by omega, hz, hz2, by rw [q1.out], by go_num, Below.drewN' hbl _⟩
      case measure => simp [intOf]; omega
    · have d1 : ¬ (k : Int) < (p : Int) - 1 := by omega
      clear hyk hjn
      go_wp2_with fail
      go_ret2
      exact ⟨rfl, hbl⟩

set_option maxHeartbeats 400000 in
theorem specLog_zero (a b : Int) (p : Nat) (w : World) (ha : IsA a) (hb : IsA b) (hp : Pr p) (hp2 : p ≤ 997) (h0 : b % p = 0) :
    Calls Try.prog 23 #[.int .i64 a, .int .i64 b, .int .i64 (p : Int)] w fun e w' => e = .returned (.tuple #[.int .i64 0, .bool false]) ∧ w = w' := by
  have c := fun W => mdAsked_yes a p W (IsP.nat.2 ⟨hp, hp2⟩) ha
  have d := fun W => mdAsked_yes b p W (IsP.nat.2 ⟨hp, hp2⟩) hb
  have d2 := fun W => mdMod_any b p W hb hp.1 hp2 0 (by rw [h0]; rfl)
  replace c := Lib.hid c
  replace d := Lib.hid d
  replace d2 := Lib.hid d2
  clear hp h0
  go_enter Try.func23, Try.ntmps23
  go_wp2_with fail
  refine (c.out _).mono ?_
  rintro e w' ⟨rfl, rfl⟩
  go_wp2_with fail
  refine (d.out _).mono ?_
  rintro e w' ⟨rfl, rfl⟩
  go_wp2_with fail
  refine (d2.out _).mono ?_
  rintro e w' ⟨rfl, rfl⟩
  go_wp2_with fail
  go_ret2
  exact ⟨rfl, rfl⟩

set_option maxHeartbeats 400000 in
theorem specLog_badb (a b p : Int) (w : World) (h : IsP p ∧ IsA a) (h2 : ¬ (IsP p ∧ IsA b)) :
    Calls Try.prog 23 #[.int .i64 a, .int .i64 b, .int .i64 p] w fun e w' => e = .returned (.tuple #[.int .i64 0, .bool false]) ∧ w = w' := by
  have c := fun W => mdAsked_yes a p W h.1 h.2
  have d := fun W => mdAsked_no b p W h2
  replace c := Lib.hid c
  replace d := Lib.hid d
  clear h h2
  go_enter Try.func23, Try.ntmps23
  go_wp2_with fail
  refine (c.out _).mono ?_
  rintro e w' ⟨rfl, rfl⟩
  go_wp2_with fail
  refine (d.out _).mono ?_
  rintro e w' ⟨rfl, rfl⟩
  go_wp2_with fail
  go_ret2
  exact ⟨rfl, rfl⟩

set_option maxHeartbeats 400000 in
theorem specLog_bada (a b p : Int) (w : World) (h : ¬ (IsP p ∧ IsA a)) :
    Calls Try.prog 23 #[.int .i64 a, .int .i64 b, .int .i64 p] w fun e w' => e = .returned (.tuple #[.int .i64 0, .bool false]) ∧ w = w' := by
  have c := fun W => mdAsked_no a p W h
  replace c := Lib.hid c
  clear h
  go_enter Try.func23, Try.ntmps23
  go_wp2_with fail
  refine (c.out _).mono ?_
  rintro e w' ⟨rfl, rfl⟩
  go_wp2_with fail
  go_ret2
  exact ⟨rfl, rfl⟩

set_option maxHeartbeats 1000000 in
theorem log_yes (a b : Int) (p : Nat) (w : World) (ha : IsA a) (hb : IsA b) (hp : Pr p) (hp2 : p ≤ 997) : ∀ r g j N : Nat, (r : Int) = a % p → r < p → (g : Int) = b % p → g < p → g ≠ 0 → Ord g p N → N ≤ 997 → j < N → g ^ j % p = r →
    Calls Try.prog 24 #[.int .i64 a, .int .i64 b, .int .i64 (p : Int)] w (GivesIntOk w j true) := by
  intro r g j N hr hrp hg hgp h0 hN hN2 hj hjr
  have hgn : g % p ≠ 0 := by rw [Nat.mod_eq_of_lt hgp]; exact h0
  have c := fun W => residueOf_yes a p W hp hp2 ha r hr
  have d := fun W => residueOf_yes b p W hp hp2 hb g hg
  have c3 := fun W => logarithmsTo_any g p N W hp hp2 hgp h0 hN hN2
  have hat0 := LM_at hp hgn hN (.lit (.int .i64 0)) j N (Nat.le_refl _) hj
  rw [hjr] at hat0
  have hhas := LM_yes g p r N j hj hjr
  replace c := Lib.hid c
  replace d := Lib.hid d
  replace c3 := Lib.hid c3
  replace hat0 := Lib.hid hat0
  replace hhas := Lib.hid hhas
  have e0 : ((g : Int) == 0) = false := by rw [beq_eq_false_iff_ne]; omega
  have ky := keyI (n := (r : Int)) (by omega) (by omega)
  clear hr hg hp hN h0 hgn hjr
  go_enter Try.func24, Try.ntmps24
  go_wp2_with fail
  refine (c.out _).mono ?_
  rintro e w' ⟨rfl, rfl⟩
  go_wp2_with fail
  refine (d.out _).mono ?_
  rintro e w' ⟨rfl, rfl⟩
  go_wp2_with fail
  refine (c3.out _).mono ?_
  rintro e w1 ⟨rfl, hm, hbl⟩
  obtain ⟨D, hDk⟩ : ∃ D, D = LM g p N := ⟨_, rfl⟩
  rw [← hDk] at hm hat0 hhas
  clear hDk
  go_wp2_with (first
    | (at_lookup; refine wpList_lookup_own_ok_int _ rfl _ _ 30 rfl 3 3 .i64 lawI Try.underlying30 Try.underlying3 (zeroI _) w.heap.size N D rfl hm _ _ rfl ky ?_; intro c hat hwc; rw [hhas.out])
    | fail)
  have hcj : c = j := by
    rw [hat0.out] at hat
    injection hat with hat
    injection hat with _ hat
    exact hat.symm
  go_ret2
  exact ⟨by rw [hcj]; rfl, hbl⟩

set_option maxHeartbeats 1000000 in
theorem log_no (a b : Int) (p : Nat) (w : World) (ha : IsA a) (hb : IsA b) (hp : Pr p) (hp2 : p ≤ 997) : ∀ r g N : Nat, (r : Int) = a % p → r < p → (g : Int) = b % p → g < p → g ≠ 0 → Ord g p N → N ≤ 997 → (∀ k, g ^ k % p ≠ r) →
    Calls Try.prog 24 #[.int .i64 a, .int .i64 b, .int .i64 (p : Int)] w (GivesIntOk w 0 false) := by
  intro r g N hr hrp hg hgp h0 hN hN2 hjn
  have c := fun W => residueOf_yes a p W hp hp2 ha r hr
  have d := fun W => residueOf_yes b p W hp hp2 hb g hg
  have c3 := fun W => logarithmsTo_any g p N W hp hp2 hgp h0 hN hN2
  have hhas := LM_no g p r N (fun j _ => hjn j)
  have hat0 := atKey_of_not_has hhas (.lit (.int .i64 0))
  replace c := Lib.hid c
  replace d := Lib.hid d
  replace c3 := Lib.hid c3
  replace hat0 := Lib.hid hat0
  replace hhas := Lib.hid hhas
  have e0 : ((g : Int) == 0) = false := by rw [beq_eq_false_iff_ne]; omega
  have ky := keyI (n := (r : Int)) (by omega) (by omega)
  clear hr hg hp hN h0 hjn
  go_enter Try.func24, Try.ntmps24
  go_wp2_with fail
  refine (c.out _).mono ?_
  rintro e w' ⟨rfl, rfl⟩
  go_wp2_with fail
  refine (d.out _).mono ?_
  rintro e w' ⟨rfl, rfl⟩
  go_wp2_with fail
  refine (c3.out _).mono ?_
  rintro e w1 ⟨rfl, hm, hbl⟩
  obtain ⟨D, hDk⟩ : ∃ D, D = LM g p N := ⟨_, rfl⟩
  rw [← hDk] at hm hat0 hhas
  clear hDk
  go_wp2_with (first
    | (at_lookup; refine wpList_lookup_own_ok_int _ rfl _ _ 30 rfl 3 3 .i64 lawI Try.underlying30 Try.underlying3 (zeroI _) w.heap.size N D rfl hm _ _ rfl ky ?_; intro c hat hwc; rw [hhas.out])
    | fail)
  have hcj : c = 0 := by
    rw [hat0.out] at hat
    injection hat with hat
    injection hat with _ hat
    exact hat.symm
  go_ret2
  exact ⟨by rw [hcj]; rfl, hbl⟩

set_option maxHeartbeats 400000 in
theorem log_zero (a b : Int) (p : Nat) (w : World) (ha : IsA a) (hb : IsA b) (hp : Pr p) (hp2 : p ≤ 997) (h0 : b % p = 0) :
    Calls Try.prog 24 #[.int .i64 a, .int .i64 b, .int .i64 (p : Int)] w fun e w' => e = .returned (.tuple #[.int .i64 0, .bool false]) ∧ w = w' := by
  obtain ⟨r, hr, _⟩ := res_nat a hp.1
  have c := fun W => residueOf_yes a p W hp hp2 ha r hr
  have d := fun W => residueOf_yes b p W hp hp2 hb 0 (by rw [h0]; rfl)
  replace c := Lib.hid c
  replace d := Lib.hid d
  clear hp h0 hr
  go_enter Try.func24, Try.ntmps24
  go_wp2_with fail
  refine (c.out _).mono ?_
  rintro e w' ⟨rfl, rfl⟩
  go_wp2_with fail
  refine (d.out _).mono ?_
  rintro e w' ⟨rfl, rfl⟩
  go_wp2_with fail
  go_ret2
  exact ⟨rfl, rfl⟩

/-- ResidueOf says something, whatever the arguments. -/
theorem residueOf_some (a p : Int) : ∃ (r : Int) (ok : Bool), ∀ w, Calls Try.prog 12 #[.int .i64 a, .int .i64 p] w fun e w' => e = .returned (.tuple #[.int .i64 r, .bool ok]) ∧ w = w' := by
  by_cases h : IsP p ∧ IsA a
  · obtain ⟨⟨q, rfl, hp, hp2⟩, ha⟩ := h
    obtain ⟨r, hr, _⟩ := res_nat a hp.1
    exact ⟨r, true, fun w => residueOf_yes a q w hp hp2 ha r hr⟩
  · exact ⟨0, false, fun w => residueOf_no a p w h⟩

set_option maxHeartbeats 400000 in
theorem log_badb (a b p : Int) (w : World) (h : IsP p ∧ IsA a) (h2 : ¬ (IsP p ∧ IsA b)) :
    Calls Try.prog 24 #[.int .i64 a, .int .i64 b, .int .i64 p] w fun e w' => e = .returned (.tuple #[.int .i64 0, .bool false]) ∧ w = w' := by
  obtain ⟨⟨q, rfl, hp, hp2⟩, ha⟩ := h
  obtain ⟨r, hr, _⟩ := res_nat a hp.1
  have c := fun W => residueOf_yes a q W hp hp2 ha r hr
  have d := fun W => residueOf_no b q W h2
  replace c := Lib.hid c
  replace d := Lib.hid d
  clear hp h2 hr
  go_enter Try.func24, Try.ntmps24
  go_wp2_with fail
  refine (c.out _).mono ?_
  rintro e w' ⟨rfl, rfl⟩
  go_wp2_with fail
  refine (d.out _).mono ?_
  rintro e w' ⟨rfl, rfl⟩
  go_wp2_with fail
  go_ret2
  exact ⟨rfl, rfl⟩

set_option maxHeartbeats 400000 in
theorem log_bada (a b p : Int) (w : World) (h : ¬ (IsP p ∧ IsA a)) :
    Calls Try.prog 24 #[.int .i64 a, .int .i64 b, .int .i64 p] w fun e w' => e = .returned (.tuple #[.int .i64 0, .bool false]) ∧ w = w' := by
  have c := fun W => residueOf_no a p W h
  obtain ⟨r, ok, d⟩ := residueOf_some b p
  replace c := Lib.hid c
  replace d := Lib.hid d
  clear h
  go_enter Try.func24, Try.ntmps24
  go_wp2_with fail
  refine (c.out _).mono ?_
  rintro e w' ⟨rfl, rfl⟩
  go_wp2_with fail
  refine (d.out _).mono ?_
  rintro e w' ⟨rfl, rfl⟩
  go_wp2_with fail
  go_ret2
  exact ⟨rfl, rfl⟩

theorem lawLogarithmOf_any (z0 z1 z2 : Int) (w : World) (_h0 : -9223372036854775808 ≤ z0 ∧ z0 ≤ 9223372036854775807) (_h1 : -9223372036854775808 ≤ z1 ∧ z1 ≤ 9223372036854775807) (_h2 : -9223372036854775808 ≤ z2 ∧ z2 ≤ 9223372036854775807) :
    Calls Try.prog 9 #[.int .i64 z0, .int .i64 z1, .int .i64 z2] w fun e w' => e = .returned (.bool true) ∧ Below w.heap.size w w' := by
  by_cases h : IsP z2 ∧ IsA z0
  · by_cases h2 : IsP z2 ∧ IsA z1
    · obtain ⟨⟨p, rfl, hp, hp2⟩, ha⟩ := h
      have hb := h2.2
      obtain ⟨r, hr, hrp⟩ := res_nat z0 hp.1
      obtain ⟨g, hg, hgp⟩ := res_nat z1 hp.1
      by_cases h0 : g = 0
      · have hz : z1 % (p : Int) = 0 := by rw [← hg, h0]; rfl
        exact lawLogarithmOf_core z0 z1 p w 0 false (fun W => givesIntOk_of (specLog_zero z0 z1 p W ha hb hp hp2 hz)) (fun W => givesIntOk_of (log_zero z0 z1 p W ha hb hp hp2 hz))
      · obtain ⟨N, hN, hN2⟩ := hp.order (g := g) (by rw [Nat.mod_eq_of_lt hgp]; exact h0)
        by_cases hx : ∃ k, g ^ k % p = r
        · obtain ⟨k, hk⟩ := hx
          rw [hN.again hp k] at hk
          obtain ⟨j, b1, b2, b3⟩ := least_of (fun k => g ^ k % p = r) (k % N) hk
          have hj : j < N := Nat.lt_of_le_of_lt b1 (Nat.mod_lt _ hN.1)
          exact lawLogarithmOf_core z0 z1 p w _ true (fun W => specLog_yes z0 z1 p W ha hb hp hp2 r g j hr hg hgp h0 (by omega) b2 b3) (fun W => log_yes z0 z1 p W ha hb hp hp2 r g j N hr hrp hg hgp h0 hN (by omega) hj b2)
        · have hn : ∀ k, g ^ k % p ≠ r := fun k e => hx ⟨k, e⟩
          exact lawLogarithmOf_core z0 z1 p w _ false (fun W => specLog_no z0 z1 p W ha hb hp hp2 r g hr hg hgp h0 hn) (fun W => log_no z0 z1 p W ha hb hp hp2 r g N hr hrp hg hgp h0 hN (by omega) hn)
    · exact lawLogarithmOf_core z0 z1 z2 w 0 false (fun W => givesIntOk_of (specLog_badb z0 z1 z2 W h h2)) (fun W => givesIntOk_of (log_badb z0 z1 z2 W h h2))
  · exact lawLogarithmOf_core z0 z1 z2 w 0 false (fun W => givesIntOk_of (specLog_bada z0 z1 z2 W h)) (fun W => givesIntOk_of (log_bada z0 z1 z2 W h))
end Go.Proofs.Ytmgfbpigjemogaa
