/- Mathematics of chapter 5: 4 A^3 + 27 B^2, valid curves, values, bounds (own work). -/
import Derived.Test.YtchglkcfolannabDoorFrMath
namespace Go.Proofs.YtchglkcfolannabDoor

theorem sq_nn (x : Int) : 0 ≤ x * x := by
  rcases Int.le_total 0 x with h | h
  · exact Int.mul_nonneg h h
  · exact Int.mul_nonneg_of_nonpos_of_nonpos h h
def ecD (a b : Int) : Int := 4 * a * a * a + 27 * b * b
/-- A valid curve. -/
def EcG (a b : Int) : Prop := (-1000 ≤ a ∧ a ≤ 1000) ∧ (-10000 ≤ b ∧ b ≤ 10000) ∧ ecD a b ≠ 0
instance (a b : Int) : Decidable (EcG a b) := by unfold EcG; infer_instance

theorem ecD_bd {a b : Int} (ha : -1000 ≤ a ∧ a ≤ 1000) (hb : -10000 ≤ b ∧ b ≤ 10000) :
    (-4000000 ≤ 4 * a * a ∧ 4 * a * a ≤ 4000000) ∧ (-4000000000 ≤ 4 * a * a * a ∧ 4 * a * a * a ≤ 4000000000) ∧ (-2700000000 ≤ 27 * b * b ∧ 27 * b * b ≤ 2700000000) ∧ (-6700000000 ≤ 4 * a * a * a + 27 * b * b ∧ 4 * a * a * a + 27 * b * b ≤ 6700000000) := by
  have k1 := fr_mul_bd (a := 4 * a) (b := a) (M := 4000) (N := 1000) (by omega) (by omega) ha.1 ha.2
  have k2 := fr_mul_bd (a := 4 * a * a) (b := a) (M := 4000000) (N := 1000) (by omega) (by omega) ha.1 ha.2
  have k3 := fr_mul_bd (a := 27 * b) (b := b) (M := 270000) (N := 10000) (by omega) (by omega) hb.1 hb.2
  omega
theorem ecD_le {a b : Int} (g : EcG a b) : 1 ≤ (ecD a b).natAbs ∧ (ecD a b).natAbs ≤ 6700000000 := by
  have h := (ecD_bd g.1 g.2.1).2.2.2
  have h0 := g.2.2
  unfold ecD at *
  omega
theorem ecInv_bd {a : Int} (ha : -1000 ≤ a ∧ a ≤ 1000) : (-6912000 ≤ 6912 * a ∧ 6912 * a ≤ 6912000) ∧ (-6912000000 ≤ 6912 * a * a ∧ 6912 * a * a ≤ 6912000000) ∧ (-6912000000000 ≤ 6912 * a * a * a ∧ 6912 * a * a * a ≤ 6912000000000) := by
  have k1 := fr_mul_bd (a := 6912 * a) (b := a) (M := 6912000) (N := 1000) (by omega) (by omega) ha.1 ha.2
  have k2 := fr_mul_bd (a := 6912 * a * a) (b := a) (M := 6912000000) (N := 1000) (by omega) (by omega) ha.1 ha.2
  omega

/-- The value of the cubic at x. -/
def ecV (a b x : Int) : Int := x * x * x + a * x + b
theorem ecV_bd {a x : Int} (ha : -1000 ≤ a ∧ a ≤ 1000) (hx : -1000000 ≤ x ∧ x ≤ 1000000) :
    (0 ≤ x * x ∧ x * x ≤ 1000000000000) ∧ (-1000000000000000000 ≤ x * x * x ∧ x * x * x ≤ 1000000000000000000) ∧ (-1000000000 ≤ a * x ∧ a * x ≤ 1000000000) ∧ (-1000001000000000000 ≤ (x * x + a) * x ∧ (x * x + a) * x ≤ 1000001000000000000) := by
  have k0 : 0 ≤ x * x := sq_nn x
  have k1 := fr_mul_bd hx.1 hx.2 hx.1 hx.2
  have k2 := fr_mul_bd (a := x * x) (b := x) (M := 1000000000000) (N := 1000000) (by omega) (by omega) hx.1 hx.2
  have k3 := fr_mul_bd ha.1 ha.2 hx.1 hx.2
  have k4 := fr_mul_bd (a := x * x + a) (b := x) (M := 1000000001000) (N := 1000000) (by omega) (by omega) hx.1 hx.2
  omega
theorem ecV_full (a b x : Int) : (x * x + a) * x + b = ecV a b x := by unfold ecV; grind
theorem ecV_linear (a x : Int) : (x * x + a) * x = ecV a 0 x := by unfold ecV; grind
theorem ecV_constant (b x : Int) : x * x * x + b = ecV 0 b x := by unfold ecV; grind

/-- From 36 on the value is not 0. -/
theorem ecV_far {a b x : Int} (ha : -1000 ≤ a ∧ a ≤ 1000) (hb : -10000 ≤ b ∧ b ≤ 10000) (hx : x < -35 ∨ 35 < x) : ecV a b x ≠ 0 := by
  unfold ecV
  intro h0
  have e : (x * x + a) * x = -b := by grind
  have hs : 1296 ≤ x * x := by
    rcases hx with h | h
    · have : 0 ≤ (-36 - x) * (-36 - x) := sq_nn _
      have e2 : (-36 - x) * (-36 - x) = x * x + 72 * x + 1296 := by grind
      have := Int.mul_le_mul_of_nonpos_left (a := -36) (b := x) (c := x) (by omega) (by omega)
      have := Int.mul_le_mul_of_nonpos_left (a := -36) (b := -36) (c := x) (by omega) (by omega)
      omega
    · have h1 := Int.mul_le_mul (a := 36) (b := 36) (c := x) (d := x) (by omega) (by omega) (by omega) (by omega)
      omega
  rcases hx with h | h
  · have h1 := Int.mul_le_mul (a := 296) (b := 36) (c := x * x + a) (d := -x) (by omega) (by omega) (by omega) (by omega)
    have e3 : (x * x + a) * -x = -((x * x + a) * x) := by grind
    omega
  · have h1 := Int.mul_le_mul (a := 296) (b := 36) (c := x * x + a) (d := x) (by omega) (by omega) (by omega) (by omega)
    omega

/-- The first n of lo, lo + 1, .. at which the value is 0. -/
def ecL (a b lo : Int) : Nat → List Int
  | 0 => []
  | j + 1 => if ecV a b (lo + j) = 0 then ecL a b lo j ++ [lo + j] else ecL a b lo j
theorem ecL_len (a b lo : Int) : ∀ k, (ecL a b lo k).length ≤ k
  | 0 => Nat.le_refl 0
  | k + 1 => by
    have := ecL_len a b lo k
    rw [ecL]
    split
    · rw [List.length_append]; show (ecL a b lo k).length + 1 ≤ k + 1; omega
    · omega
theorem ecL_yes {a b lo : Int} {j : Nat} (h : ecV a b (lo + j) = 0) : ecL a b lo j ++ [lo + j] = ecL a b lo (j + 1) := by rw [ecL, if_pos h]
theorem ecL_no {a b lo : Int} {j : Nat} (h : ¬ ecV a b (lo + j) = 0) : ecL a b lo j = ecL a b lo (j + 1) := by rw [ecL, if_neg h]
theorem ecL_skip {a b lo : Int} (n : Nat) (h : ∀ j : Nat, j < n → ecV a b (lo + j) ≠ 0) : ∀ m, ecL a b lo (n + m) = ecL a b (lo + n) m := by
  have h0 : ∀ k, k ≤ n → ecL a b lo k = [] := by
    intro k
    induction k with
    | zero => intro _; rfl
    | succ k ih => intro hk; rw [ecL, if_neg (h k (by omega))]; exact ih (by omega)
  intro m
  induction m with
  | zero => exact h0 n (Nat.le_refl n)
  | succ m ih =>
    rw [← Nat.add_assoc, ecL, ecL, ih]
    have e : lo + ((n + m : Nat) : Int) = lo + (n : Int) + (m : Int) := by omega
    rw [e]
theorem ecL_stop {a b lo : Int} (n : Nat) : ∀ m, (∀ j : Nat, n ≤ j → j < n + m → ecV a b (lo + j) ≠ 0) → ecL a b lo (n + m) = ecL a b lo n
  | 0, _ => rfl
  | m + 1, h => by
    rw [← Nat.add_assoc, ecL, if_neg (h (n + m) (by omega) (by omega))]
    exact ecL_stop n m (fun j h1 h2 => h j h1 (by omega))
/-- The roots from -100 to 100 are those from -35 to 35. -/
theorem ecL_same {a b : Int} (ha : -1000 ≤ a ∧ a ≤ 1000) (hb : -10000 ≤ b ∧ b ≤ 10000) : ecL a b (-100) 201 = ecL a b (-35) 71 := by
  rw [show (201 : Nat) = 136 + 65 from rfl, ecL_stop 136 65 (fun j h1 h2 => ecV_far ha hb (.inr (by omega)))]
  rw [show (136 : Nat) = 65 + 71 from rfl, ecL_skip 65 (fun j h1 => ecV_far ha hb (.inl (by omega)))]
  rfl

/-- u to the powers 4 and 6 divides a and b. -/
def ecS (a b u4 u6 : Int) : Prop := a.tmod u4 = 0 ∧ b.tmod u6 = 0
instance (a b u4 u6 : Int) : Decidable (ecS a b u4 u6) := by unfold ecS; infer_instance
def ecU (a b : Int) : Int := if ecS a b 625 15625 then 5 else if ecS a b 256 4096 then 4 else if ecS a b 81 729 then 3 else if ecS a b 16 64 then 2 else 1
def ecSA (a b : Int) : Int := if ecS a b 625 15625 then a.tdiv 625 else if ecS a b 256 4096 then a.tdiv 256 else if ecS a b 81 729 then a.tdiv 81 else if ecS a b 16 64 then a.tdiv 16 else a
def ecSB (a b : Int) : Int := if ecS a b 625 15625 then b.tdiv 15625 else if ecS a b 256 4096 then b.tdiv 4096 else if ecS a b 81 729 then b.tdiv 729 else if ecS a b 16 64 then b.tdiv 64 else b
end Go.Proofs.YtchglkcfolannabDoor
