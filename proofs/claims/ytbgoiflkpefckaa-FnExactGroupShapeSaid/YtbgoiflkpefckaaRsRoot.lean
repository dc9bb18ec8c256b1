/- SquareRoot: the model's mdRoot and the program's, and the law. -/
import Derived.Test.YtbgoiflkpefckaaRsPow
import Derived.Deep.QuietTactic
import Derived.BigQuiet
namespace Go.Proofs.Ytbgoiflkpefckaa
open Go.RowKit Go.Joins

/-- Below x no square has the residue r. -/
def NoRt (x r p : Nat) : Prop := ∀ y, y < x → y * y % p ≠ r
theorem NoRt.succ {x r p : Nat} (h : NoRt x r p) (hx : x * x % p ≠ r) : NoRt (x + 1) r p := fun y hy => by
  by_cases e : y = x
  · subst e; exact hx
  · exact h y (by omega)
theorem sq_flip {x y p : Nat} (h : x + y = p) : y * y % p = x * x % p := by
  have e : y * y + p * x = x * x + p * y := by
    rw [← h, Nat.add_mul, Nat.add_mul, Nat.mul_comm y x]
    omega
  have h1 : (y * y + p * x) % p = (x * x + p * y) % p := by rw [e]
  rwa [Nat.add_mul_mod_self_left, Nat.add_mul_mod_self_left] at h1
/-- A root beyond the half has one before it. -/
theorem NoRt.half {x r p : Nat} (h : NoRt x r p) (hr : x * x % p = r) (hx : x < p) : x ≤ p / 2 := by
  apply Nat.le_of_not_lt; intro hlt
  refine h (p - x) (by omega) ?_
  rw [sq_flip (x := x) (by omega)]
  exact hr
theorem NoRt.all {r p : Nat} (h : NoRt (p / 2 + 1) r p) : NoRt p r p := fun y hy e => by
  by_cases hy2 : y ≤ p / 2
  · exact h y (by omega) e
  · refine h (p - y) (by omega) ?_
    rw [sq_flip (x := y) (by omega)]
    exact e

theorem quiet_left {P : Program} {f : FuncId} {args : Array Value} {w : World} {n : Nat} {v : Value} (h : Calls P f args (w.drewN n) fun e w' => e = .returned v ∧ w.drewN n = w') :
    Calls P f args (w.drewN n) fun e w'' => e = .returned v ∧ ∃ m, w'' = w.drewN m := h.mono fun _ _ ⟨he, hm⟩ => ⟨he, n, hm.symm⟩

theorem Below.drewN' {B : Nat} {a w : World} (h : Below B a w) (n : Nat) : Below B a (w.drewN n) := h.trans ⟨rfl, rfl, rfl, Nat.le_refl _, fun _ _ => rfl⟩

set_option maxHeartbeats 1000000 in
theorem squareRoot_yes (a : Int) (p : Nat) (w : World) (ha : IsA a) (hp : Pr p) (hp2 : p ≤ 997) : ∀ r X : Nat, (r : Int) = a % p → X < p → X * X % p = r → NoRt X r p →
    Calls Try.prog 74 #[.int .i64 a, .int .i64 (p : Int)] w (GivesIntOk w X true) := by
  intro r X hr hX hXr hXn
  have hhalf := hXn.half hXr hX
  have hp1 := hp.1
  have c := fun W => residueOf_yes a p W hp hp2 ha r hr
  replace c := Lib.hid c
  replace hXr := Lib.hid hXr
  replace hXn := Lib.hid hXn
  clear hr hp
  go_enter Try.func74, Try.ntmps74
  go_wp2_with fail
  refine (c.out _).mono ?_
  rintro e w' ⟨rfl, rfl⟩
  go_wp2_with fail
  go_loop [8] (fun v => ∃ y : Nat, y ≤ X ∧ v = .int .i64 y) (fun v => 1000 - (intOf v).toNat)
  case atStart => exact ⟨0, by omega, rfl⟩
  case round =>
    obtain ⟨y, hy, rfl⟩ := hrel
    obtain ⟨s3, s4⟩ := small_mul (o := y) (x := y) (by omega) (by omega)
    have d1 : (y : Int) ≤ (p : Int) / 2 := by omega
    by_cases hlt : y = X
    · have e1 : ((y : Int) * y % p == (r : Int)) = true := by rw [cast_mm, beq_iff_eq, hlt, hXr.out]
      have hyX : Hid (y = X) := hlt
      clear hlt hXr hXn
      go_wp2_with fail
      go_ret2
      exact ⟨by rw [hyX.out]; rfl, Below.refl _ _⟩
    · have e1 : ((y : Int) * y % p == (r : Int)) = false := by
        rw [cast_mm, beq_eq_false_iff_ne]
        have := hXn.out y (by omega)
        omega
      clear hXr hXn
      go_wp2_with fail
      go_round
      case rel => exact ⟨y + 1, by omega, by go_num⟩
      case measure => simp [intOf]; omega

set_option maxHeartbeats 1000000 in
theorem squareRoot_no (a : Int) (p : Nat) (w : World) (ha : IsA a) (hp : Pr p) (hp2 : p ≤ 997) : ∀ r : Nat, (r : Int) = a % p → NoRt p r p →
    Calls Try.prog 74 #[.int .i64 a, .int .i64 (p : Int)] w (GivesIntOk w 0 false) := by
  intro r hr hXn
  have hp1 := hp.1
  have c := fun W => residueOf_yes a p W hp hp2 ha r hr
  replace c := Lib.hid c
  replace hXn := Lib.hid hXn
  clear hr hp
  go_enter Try.func74, Try.ntmps74
  go_wp2_with fail
  refine (c.out _).mono ?_
  rintro e w' ⟨rfl, rfl⟩
  go_wp2_with fail
  go_loop [8] (fun v => ∃ y : Nat, y ≤ p / 2 + 1 ∧ v = .int .i64 y) (fun v => 1000 - (intOf v).toNat)
  case atStart => exact ⟨0, by omega, rfl⟩
  case round =>
    obtain ⟨y, hy, rfl⟩ := hrel
    by_cases hlt : y ≤ p / 2
    · obtain ⟨s3, s4⟩ := small_mul (o := y) (x := y) (by omega) (by omega)
      have d1 : (y : Int) ≤ (p : Int) / 2 := by omega
      have e1 : ((y : Int) * y % p == (r : Int)) = false := by
        rw [cast_mm, beq_eq_false_iff_ne]
        have := hXn.out y (by omega)
        omega
      clear hXn
      go_wp2_with fail
      go_round
      case rel => exact ⟨y + 1, by omega, by go_num⟩
      case measure => simp [intOf]; omega
    · have d1 : ¬ (y : Int) ≤ (p : Int) / 2 := by omega
      clear hXn
      go_wp2_with fail
      go_ret2
      exact ⟨rfl, Below.refl _ _⟩

set_option maxHeartbeats 400000 in
theorem squareRoot_bad (a p : Int) (w : World) (h : ¬ (IsP p ∧ IsA a)) :
    Calls Try.prog 74 #[.int .i64 a, .int .i64 p] w (GivesIntOk w 0 false) := by
  have c := fun W => residueOf_no a p W h
  replace c := Lib.hid c
  clear h
  go_enter Try.func74, Try.ntmps74
  go_wp2_with fail
  refine (c.out _).mono ?_
  rintro e w' ⟨rfl, rfl⟩
  go_wp2_with fail
  go_ret2
  exact ⟨rfl, Below.refl _ _⟩

end Go.Proofs.Ytbgoiflkpefckaa
