/- SquareRoot: the model's mdRoot and the program's, and the law. -/
import Derived.Test.YtmgfbpigjemogaaRsPow
import Derived.Deep.QuietTactic
import Derived.BigQuiet
namespace Go.Proofs.Ytmgfbpigjemogaa
open Go.RowKit Go.Joins

/-- Below x no square has the residue r. -/
def NoRt (x r p : Nat) : Prop := ∀ y, y < x → y * y % p ≠ r
theorem NoRt.succ {x r p : Nat} (h : NoRt x r p) (hx : x * x % p ≠ r) : NoRt (x + 1) r p := fun y hy => by
  by_cases e : y = x
  · subst e; exact hx
  · exact h y (by omega)
theorem sq_flip {x y p : Nat} (h : x + y = p) : y * y % p = x * x % p := by
  have e : y * y + p * x = x * x + p * y := by
    rw [← h, Nat.add_mul, Nat.add_mul, Nat.mul_comm y x]
    omega
  have h1 : (y * y + p * x) % p = (x * x + p * y) % p := by rw [e]
  rwa [Nat.add_mul_mod_self_left, Nat.add_mul_mod_self_left] at h1
/-- A root beyond the half has one before it. -/
theorem NoRt.half {x r p : Nat} (h : NoRt x r p) (hr : x * x % p = r) (hx : x < p) : x ≤ p / 2 := by
  apply Nat.le_of_not_lt; intro hlt
  refine h (p - x) (by omega) ?_
  rw [sq_flip (x := x) (by omega)]
  exact hr
theorem NoRt.all {r p : Nat} (h : NoRt (p / 2 + 1) r p) : NoRt p r p := fun y hy e => by
  by_cases hy2 : y ≤ p / 2
  · exact h y (by omega) e
  · refine h (p - y) (by omega) ?_
    rw [sq_flip (x := y) (by omega)]
    exact e

theorem quiet_left {P : Program} {f : FuncId} {args : Array Value} {w : World} {n : Nat} {v : Value} (h : Calls P f args (w.drewN n) fun e w' => e = .returned v ∧ w.drewN n = w') :
    Calls P f args (w.drewN n) fun e w'' => e = .returned v ∧ ∃ m, w'' = w.drewN m := h.mono fun _ _ ⟨he, hm⟩ => ⟨he, n, hm.symm⟩

theorem Below.drewN' {B : Nat} {a w : World} (h : Below B a w) (n : Nat) : Below B a (w.drewN n) := h.trans ⟨rfl, rfl, rfl, Nat.le_refl _, fun _ _ => rfl⟩

set_option maxHeartbeats 1000000 in
theorem mdRoot_yes (a : Int) (p : Nat) (w : World) (ha : IsA a) (hp : 2 ≤ p) (hp2 : p ≤ 997) : ∀ r X : Nat, (r : Int) = a % p → X < p → X * X % p = r → NoRt X r p →
    Calls Try.prog 35 #[.int .i64 a, .int .i64 (p : Int)] w (GivesInt w X) := by
  intro r X hr hX hXr hXn
  have c := fun W => mdMod_any a p W ha hp hp2 r hr
  replace c := Lib.hid c
  replace hXr := Lib.hid hXr
  replace hXn := Lib.hid hXn
  clear hr
  have p0 : ((p : Int) == 0) = false := beq_eq_false_iff_ne.2 (by omega)
  have p1 : (p : Int) ≠ 0 := by omega
  have p2 : p ≠ 0 := by omega
  go_enter Try.func35, Try.ntmps35
  go_wp2_with fail
  go_loopw [5] (fun v wr => ∃ y : Nat, y ≤ X ∧ v = .int .i64 y ∧ Below w.heap.size w wr) (fun v _ => 1000 - (intOf v).toNat)
  case atStart => exact ⟨0, by omega, rfl, Below.refl _ _⟩
  case round =>
    obtain ⟨y, hy, rfl, hb⟩ := hrel
    obtain ⟨s3, s4⟩ := small_mul (o := y) (x := y) (by omega) (by omega)
    have q1 : IntKind.i64.wrap ((y : Int) * y) = (y : Int) * y := IntWalk.i64_in _ (by omega)
    have q2 : ((y : Int) * y).tmod p = (y : Int) * y % p := Int.tmod_eq_emod_of_nonneg s3
    by_cases hlt : y = X
    · have e1 : ((y : Int) * y % p == (r : Int)) = true := by rw [cast_mm, beq_iff_eq, hlt, hXr.out]
      have hyX : Hid (y = X) := hlt
      have d1 : (y : Int) < p := by omega
      clear hlt hXr hXn
      go_wp2_with fail
      go_quiet ((go_at_call 28; exact quiet_left (c.out _)))
      go_wp2_with fail
      go_ret
      exact ⟨by rw [hyX.out]; rfl, Below.drewN' hb _⟩
    · have e1 : ((y : Int) * y % p == (r : Int)) = false := by
        rw [cast_mm, beq_eq_false_iff_ne]
        have := hXn.out y (by omega)
        omega
      have d1 : (y : Int) < p := by omega
      clear hXr hXn
      go_wp2_with fail
      go_quiet ((go_at_call 28; exact quiet_left (c.out _)))
      go_wp2_with fail
      go_roundw
      case rel => exact ⟨y + 1, by omega, by go_num, Below.drewN' hb _⟩
      case measure => simp [intOf]; omega

set_option maxHeartbeats 1000000 in
theorem mdRoot_no (a : Int) (p : Nat) (w : World) (ha : IsA a) (hp : 2 ≤ p) (hp2 : p ≤ 997) : ∀ r : Nat, (r : Int) = a % p → NoRt p r p →
    Calls Try.prog 35 #[.int .i64 a, .int .i64 (p : Int)] w (GivesInt w (-1)) := by
  intro r hr hXn
  have c := fun W => mdMod_any a p W ha hp hp2 r hr
  replace c := Lib.hid c
  replace hXn := Lib.hid hXn
  clear hr
  have p0 : ((p : Int) == 0) = false := beq_eq_false_iff_ne.2 (by omega)
  have p1 : (p : Int) ≠ 0 := by omega
  have p2 : p ≠ 0 := by omega
  go_enter Try.func35, Try.ntmps35
  go_wp2_with fail
  go_loopw [5] (fun v wr => ∃ y : Nat, y ≤ p ∧ v = .int .i64 y ∧ Below w.heap.size w wr) (fun v _ => 1000 - (intOf v).toNat)
  case atStart => exact ⟨0, by omega, rfl, Below.refl _ _⟩
  case round =>
    obtain ⟨y, hy, rfl, hb⟩ := hrel
    by_cases hlt : y < p
    · obtain ⟨s3, s4⟩ := small_mul (o := y) (x := y) (by omega) (by omega)
      have q1 : IntKind.i64.wrap ((y : Int) * y) = (y : Int) * y := IntWalk.i64_in _ (by omega)
      have q2 : ((y : Int) * y).tmod p = (y : Int) * y % p := Int.tmod_eq_emod_of_nonneg s3
      have e1 : ((y : Int) * y % p == (r : Int)) = false := by
        rw [cast_mm, beq_eq_false_iff_ne]
        have := hXn.out y (by omega)
        omega
      have d1 : (y : Int) < p := by omega
      clear hXn
      go_wp2_with fail
      go_quiet ((go_at_call 28; exact quiet_left (c.out _)))
      go_wp2_with fail
      go_roundw
      case rel => exact ⟨y + 1, by omega, by go_num, Below.drewN' hb _⟩
      case measure => simp [intOf]; omega
    · have d1 : ¬ (y : Int) < p := by omega
      go_wp2_with fail
      go_ret
      exact ⟨rfl, hb⟩

set_option maxHeartbeats 400000 in
theorem specSquareRoot_yes (a : Int) (p : Nat) (w : World) (ha : IsA a) (hp : Pr p) (hp2 : p ≤ 997) : ∀ r X : Nat, (r : Int) = a % p → X < p → X * X % p = r → NoRt X r p →
    Calls Try.prog 19 #[.int .i64 a, .int .i64 (p : Int)] w (GivesIntOk w X true) := by
  intro r X hr hX hXr hXn
  have c := fun W => mdAsked_yes a p W (IsP.nat.2 ⟨hp, hp2⟩) ha
  have c2 := fun W => mdRoot_yes a p W ha hp.1 hp2 r X hr hX hXr hXn
  replace c := Lib.hid c
  replace c2 := Lib.hid c2
  clear hr hp hX hXr hXn
  have h := Below.refl w.heap.size w
  go_enter Try.func19, Try.ntmps19
  go_wp2_with fail
  refine (c.out _).mono ?_
  rintro e w' ⟨rfl, rfl⟩
  go_wp2_with fail
  refine (c2.out _).mono ?_
  rintro e w1 ⟨rfl, hb⟩
  replace h := Below.step h hb
  clear hb
  go_wp2_with fail
  refine (c2.out _).mono ?_
  rintro e w2 ⟨rfl, hb⟩
  replace h := Below.step h hb
  clear hb
  go_wp2_with fail
  go_ret2
  exact ⟨rfl, h⟩

set_option maxHeartbeats 400000 in
theorem specSquareRoot_no (a : Int) (p : Nat) (w : World) (ha : IsA a) (hp : Pr p) (hp2 : p ≤ 997) : ∀ r : Nat, (r : Int) = a % p → NoRt p r p →
    Calls Try.prog 19 #[.int .i64 a, .int .i64 (p : Int)] w (GivesIntOk w 0 false) := by
  intro r hr hXn
  have c := fun W => mdAsked_yes a p W (IsP.nat.2 ⟨hp, hp2⟩) ha
  have c2 := fun W => mdRoot_no a p W ha hp.1 hp2 r hr hXn
  replace c := Lib.hid c
  replace c2 := Lib.hid c2
  clear hr hp hXn
  have h := Below.refl w.heap.size w
  go_enter Try.func19, Try.ntmps19
  go_wp2_with fail
  refine (c.out _).mono ?_
  rintro e w' ⟨rfl, rfl⟩
  go_wp2_with fail
  refine (c2.out _).mono ?_
  rintro e w1 ⟨rfl, hb⟩
  replace h := Below.step h hb
  clear hb
  go_wp2_with fail
  go_ret2
  exact ⟨rfl, h⟩

set_option maxHeartbeats 400000 in
theorem specSquareRoot_bad (a p : Int) (w : World) (h : ¬ (IsP p ∧ IsA a)) :
    Calls Try.prog 19 #[.int .i64 a, .int .i64 p] w (GivesIntOk w 0 false) := by
  have c := fun W => mdAsked_no a p W h
  replace c := Lib.hid c
  clear h
  go_enter Try.func19, Try.ntmps19
  go_wp2_with fail
  refine (c.out _).mono ?_
  rintro e w' ⟨rfl, rfl⟩
  go_wp2_with fail
  go_ret2
  exact ⟨rfl, Below.refl _ _⟩

set_option maxHeartbeats 1000000 in
theorem squareRoot_yes (a : Int) (p : Nat) (w : World) (ha : IsA a) (hp : Pr p) (hp2 : p ≤ 997) : ∀ r X : Nat, (r : Int) = a % p → X < p → X * X % p = r → NoRt X r p →
    Calls Try.prog 20 #[.int .i64 a, .int .i64 (p : Int)] w (GivesIntOk w X true) := by
  intro r X hr hX hXr hXn
  have hhalf := hXn.half hXr hX
  have hp1 := hp.1
  have c := fun W => residueOf_yes a p W hp hp2 ha r hr
  replace c := Lib.hid c
  replace hXr := Lib.hid hXr
  replace hXn := Lib.hid hXn
  clear hr hp
  go_enter Try.func20, Try.ntmps20
  go_wp2_with fail
  refine (c.out _).mono ?_
  rintro e w' ⟨rfl, rfl⟩
  go_wp2_with fail
  go_loop [8] (fun v => ∃ y : Nat, y ≤ X ∧ v = .int .i64 y) (fun v => 1000 - (intOf v).toNat)
  case atStart => exact ⟨0, by omega, rfl⟩
  case round =>
    obtain ⟨y, hy, rfl⟩ := hrel
    obtain ⟨s3, s4⟩ := small_mul (o := y) (x := y) (by omega) (by omega)
    have d1 : (y : Int) ≤ (p : Int) / 2 := by omega
    by_cases hlt : y = X
    · have e1 : ((y : Int) * y % p == (r : Int)) = true := by rw [cast_mm, beq_iff_eq, hlt, hXr.out]
      have hyX : Hid (y = X) := hlt
      clear hlt hXr hXn
      go_wp2_with fail
      go_ret2
      exact ⟨by rw [hyX.out]; rfl, Below.refl _ _⟩
    · have e1 : ((y : Int) * y % p == (r : Int)) = false := by
        rw [cast_mm, beq_eq_false_iff_ne]
        have := hXn.out y (by omega)
        omega
      clear hXr hXn
      go_wp2_with fail
      go_round
      case rel => exact ⟨y + 1, by omega, by go_num⟩
      case measure => simp [intOf]; omega

set_option maxHeartbeats 1000000 in
theorem squareRoot_no (a : Int) (p : Nat) (w : World) (ha : IsA a) (hp : Pr p) (hp2 : p ≤ 997) : ∀ r : Nat, (r : Int) = a % p → NoRt p r p →
    Calls Try.prog 20 #[.int .i64 a, .int .i64 (p : Int)] w (GivesIntOk w 0 false) := by
  intro r hr hXn
  have hp1 := hp.1
  have c := fun W => residueOf_yes a p W hp hp2 ha r hr
  replace c := Lib.hid c
  replace hXn := Lib.hid hXn
  clear hr hp
  go_enter Try.func20, Try.ntmps20
  go_wp2_with fail
  refine (c.out _).mono ?_
  rintro e w' ⟨rfl, rfl⟩
  go_wp2_with fail
  go_loop [8] (fun v => ∃ y : Nat, y ≤ p / 2 + 1 ∧ v = .int .i64 y) (fun v => 1000 - (intOf v).toNat)
  case atStart => exact ⟨0, by omega, rfl⟩
  case round =>
    obtain ⟨y, hy, rfl⟩ := hrel
    by_cases hlt : y ≤ p / 2
    · obtain ⟨s3, s4⟩ := small_mul (o := y) (x := y) (by omega) (by omega)
      have d1 : (y : Int) ≤ (p : Int) / 2 := by omega
      have e1 : ((y : Int) * y % p == (r : Int)) = false := by
        rw [cast_mm, beq_eq_false_iff_ne]
        have := hXn.out y (by omega)
        omega
      clear hXn
      go_wp2_with fail
      go_round
      case rel => exact ⟨y + 1, by omega, by go_num⟩
      case measure => simp [intOf]; omega
    · have d1 : ¬ (y : Int) ≤ (p : Int) / 2 := by omega
      clear hXn
      go_wp2_with fail
      go_ret2
      exact ⟨rfl, Below.refl _ _⟩

set_option maxHeartbeats 400000 in
theorem squareRoot_bad (a p : Int) (w : World) (h : ¬ (IsP p ∧ IsA a)) :
    Calls Try.prog 20 #[.int .i64 a, .int .i64 p] w (GivesIntOk w 0 false) := by
  have c := fun W => residueOf_no a p W h
  replace c := Lib.hid c
  clear h
  go_enter Try.func20, Try.ntmps20
  go_wp2_with fail
  refine (c.out _).mono ?_
  rintro e w' ⟨rfl, rfl⟩
  go_wp2_with fail
  go_ret2
  exact ⟨rfl, Below.refl _ _⟩

theorem lawSquareRoot_any (z0 z1 : Int) (w : World) (_h0 : -9223372036854775808 ≤ z0 ∧ z0 ≤ 9223372036854775807) (_h1 : -9223372036854775808 ≤ z1 ∧ z1 ≤ 9223372036854775807) :
    Calls Try.prog 7 #[.int .i64 z0, .int .i64 z1] w fun e w' => e = .returned (.bool true) ∧ Below w.heap.size w w' := by
  by_cases h : IsP z1 ∧ IsA z0
  · obtain ⟨⟨p, rfl, hp, hp2⟩, ha⟩ := h
    obtain ⟨r, hr, hrp⟩ := res_nat z0 hp.1
    by_cases hx : ∃ x, x < p ∧ x * x % p = r
    · obtain ⟨x, h1, h2⟩ := hx
      obtain ⟨X, b1, b2, b3⟩ := least_of (fun x => x * x % p = r) x h2
      have hX : X < p := by omega
      exact lawSquareRoot_core z0 p w _ true (fun W => specSquareRoot_yes z0 p W ha hp hp2 r X hr hX b2 b3) (fun W => squareRoot_yes z0 p W ha hp hp2 r X hr hX b2 b3)
    · have hn : NoRt p r p := fun y hy e => hx ⟨y, hy, e⟩
      exact lawSquareRoot_core z0 p w _ false (fun W => specSquareRoot_no z0 p W ha hp hp2 r hr hn) (fun W => squareRoot_no z0 p W ha hp hp2 r hr hn)
  · exact lawSquareRoot_core z0 z1 w 0 false (fun W => specSquareRoot_bad z0 z1 W h) (fun W => squareRoot_bad z0 z1 W h)
end Go.Proofs.Ytmgfbpigjemogaa
