/- The greater of a number and its negative; quiet callees (own work). -/
import Derived.Test.YtanmkamagdajpaaDoorCiAt
import Derived.Test.YtanmkamagdajpaaDoorCiGcd
import Derived.Test.YtanmkamagdajpaaDoorFrGood
namespace Go.Proofs.YtanmkamagdajpaaDoor
open Go.RowKit Go.Joins

theorem run_max_abs {P : Program} {w : World} (ts : Array TypeId) (t : TypeId) (x : Int) : (Builtin.max_ ts t #[.int .i64 x, .int .i64 (-x)]).run P w = .ok (.int .i64 ((x.natAbs : Nat) : Int)) w := by
  have e : ((x.natAbs : Nat) : Int) = if -x > x then -x else x := by split <;> omega
  rw [e]
  simp [Builtin.max_, Builtin.max2]
attribute [go_sem high] run_max_abs

theorem below_drew {B : Nat} {a w : World} (h : Below B a w) : Below B a w.drew := Below.drewN' h 1
/-- The greatest common divisor of the coefficients; the first ones' on the way. -/
def gc4 (a b c d : Int) : Nat := Nat.gcd (Nat.gcd a.natAbs b.natAbs) (Nat.gcd c.natAbs d.natAbs)
theorem gc4_left (a b c d : Int) : Nat.gcd (Nat.gcd (Nat.gcd a.natAbs b.natAbs) c.natAbs) d.natAbs = gc4 a b c d := by unfold gc4; rw [Nat.gcd_assoc (Nat.gcd a.natAbs b.natAbs)]
theorem gc4_pos {a b c d : Int} (ha : a ≠ 0) : 0 < gc4 a b c d := Nat.gcd_pos_of_pos_left _ (Nat.gcd_pos_of_pos_left _ (by omega))
theorem gc4_le {a b c d : Int} (ha : a ≠ 0) : gc4 a b c d ≤ a.natAbs := Nat.le_of_dvd (by omega) (Nat.dvd_trans (Nat.gcd_dvd_left _ _) (Nat.gcd_dvd_left _ _))
theorem gc4_dvd (a b c d : Int) : ((gc4 a b c d : Nat) : Int) ∣ a ∧ ((gc4 a b c d : Nat) : Int) ∣ b ∧ ((gc4 a b c d : Nat) : Int) ∣ c ∧ ((gc4 a b c d : Nat) : Int) ∣ d :=
  ⟨Int.ofNat_dvd_left.2 (Nat.dvd_trans (Nat.gcd_dvd_left _ _) (Nat.gcd_dvd_left _ _)), Int.ofNat_dvd_left.2 (Nat.dvd_trans (Nat.gcd_dvd_left _ _) (Nat.gcd_dvd_right _ _)),
   Int.ofNat_dvd_left.2 (Nat.dvd_trans (Nat.gcd_dvd_right _ _) (Nat.gcd_dvd_left _ _)), Int.ofNat_dvd_left.2 (Nat.dvd_trans (Nat.gcd_dvd_right _ _) (Nat.gcd_dvd_right _ _))⟩
end Go.Proofs.YtanmkamagdajpaaDoor
