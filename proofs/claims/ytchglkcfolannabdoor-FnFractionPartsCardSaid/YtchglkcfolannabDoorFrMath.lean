/- Fractions: the arithmetic of lowest terms, floors, roots (own work). -/
namespace Go.Proofs.YtchglkcfolannabDoor

/-- A fraction that is valid. -/
def FrG (p q : Int) : Prop := 1 ≤ q ∧ q ≤ 1000000000 ∧ -1000000000 ≤ p ∧ p ≤ 1000000000 ∧ Nat.gcd p.natAbs q.natAbs = 1
instance (p q : Int) : Decidable (FrG p q) := by unfold FrG; infer_instance

/-- What n / d is divided by: the greatest common divisor, with the sign of d. -/
def lowS (n d : Int) : Int := if d < 0 then -((Nat.gcd n.natAbs d.natAbs : Nat) : Int) else ((Nat.gcd n.natAbs d.natAbs : Nat) : Int)
def lowP (n d : Int) : Int := n / lowS n d
def lowQ (n d : Int) : Int := d / lowS n d
def lowB (n d : Int) : Bool := decide (d ≠ 0 ∧ lowQ n d ≤ 1000000000 ∧ -1000000000 ≤ lowP n d ∧ lowP n d ≤ 1000000000)
def lowRP (n d : Int) : Int := if lowB n d then lowP n d else 0
def lowRQ (n d : Int) : Int := if lowB n d then lowQ n d else 0

theorem gcd_pos_right {n d : Int} (h : d ≠ 0) : 0 < Nat.gcd n.natAbs d.natAbs := Nat.gcd_pos_of_pos_right _ (by omega)
theorem lowS_ne {n d : Int} (h : d ≠ 0) : lowS n d ≠ 0 := by
  have := gcd_pos_right (n := n) h
  unfold lowS; split <;> omega
theorem lowS_dvd_n {n d : Int} : lowS n d ∣ n := by
  have h : ((Nat.gcd n.natAbs d.natAbs : Nat) : Int) ∣ n := Int.ofNat_dvd_left.2 (Nat.gcd_dvd_left _ _)
  unfold lowS; split
  · exact Int.neg_dvd.2 h
  · exact h
theorem lowS_dvd_d {n d : Int} : lowS n d ∣ d := by
  have h : ((Nat.gcd n.natAbs d.natAbs : Nat) : Int) ∣ d := Int.ofNat_dvd_left.2 (Nat.gcd_dvd_right _ _)
  unfold lowS; split
  · exact Int.neg_dvd.2 h
  · exact h
theorem lowS_natAbs (n d : Int) : (lowS n d).natAbs = Nat.gcd n.natAbs d.natAbs := by unfold lowS; split <;> simp
theorem lowP_tdiv {n d : Int} : n.tdiv (lowS n d) = lowP n d := Int.tdiv_eq_ediv_of_dvd lowS_dvd_n
theorem lowQ_tdiv {n d : Int} : d.tdiv (lowS n d) = lowQ n d := Int.tdiv_eq_ediv_of_dvd lowS_dvd_d
theorem lowP_mul {n d : Int} : lowP n d * lowS n d = n := Int.ediv_mul_cancel lowS_dvd_n
theorem lowQ_mul {n d : Int} : lowQ n d * lowS n d = d := Int.ediv_mul_cancel lowS_dvd_d
theorem lowP_natAbs {n d : Int} : (lowP n d).natAbs = n.natAbs / Nat.gcd n.natAbs d.natAbs := by
  unfold lowP; rw [Int.natAbs_ediv_of_dvd lowS_dvd_n, lowS_natAbs]
theorem lowQ_natAbs {n d : Int} : (lowQ n d).natAbs = d.natAbs / Nat.gcd n.natAbs d.natAbs := by
  unfold lowQ; rw [Int.natAbs_ediv_of_dvd lowS_dvd_d, lowS_natAbs]
theorem lowP_le {n d : Int} : (lowP n d).natAbs ≤ n.natAbs := by rw [lowP_natAbs]; exact Nat.div_le_self _ _
theorem lowQ_le {n d : Int} : (lowQ n d).natAbs ≤ d.natAbs := by rw [lowQ_natAbs]; exact Nat.div_le_self _ _
theorem lowQ_pos {n d : Int} (h : d ≠ 0) : 0 < lowQ n d := by
  have hm := lowQ_mul (n := n) (d := d)
  have hg := gcd_pos_right (n := n) h
  by_cases hd : d < 0
  · have hs : lowS n d < 0 := by unfold lowS; rw [if_pos hd]; omega
    apply Int.lt_of_not_ge; intro hq
    have := Int.mul_nonneg_of_nonpos_of_nonpos hq (Int.le_of_lt hs)
    omega
  · have hs : 0 < lowS n d := by unfold lowS; rw [if_neg hd]; omega
    apply Int.lt_of_not_ge; intro hq
    have := Int.mul_nonpos_of_nonpos_of_nonneg hq (Int.le_of_lt hs)
    omega
theorem low_coprime {n d : Int} (h : d ≠ 0) : Nat.gcd (lowP n d).natAbs (lowQ n d).natAbs = 1 := by
  rw [lowP_natAbs, lowQ_natAbs]
  exact Nat.gcd_div_gcd_div_gcd_of_pos_right (by omega)
theorem lowB_good {n d : Int} (h : lowB n d = true) : d ≠ 0 ∧ FrG (lowP n d) (lowQ n d) := by
  have h1 := of_decide_eq_true h
  exact ⟨h1.1, lowQ_pos h1.1, h1.2.1, h1.2.2.1, h1.2.2.2, low_coprime h1.1⟩
theorem lowB_bad {n d : Int} (hd : d ≠ 0) (h : lowB n d = false) : ¬ FrG (lowP n d) (lowQ n d) ∧ (1000000000 < lowQ n d ∨ lowP n d < -1000000000 ∨ 1000000000 < lowP n d) := by
  have h1 := of_decide_eq_false h
  refine ⟨fun hg => h1 ⟨hd, hg.2.1, hg.2.2.1, hg.2.2.2.1⟩, ?_⟩
  by_cases h2 : lowQ n d ≤ 1000000000
  · by_cases h3 : -1000000000 ≤ lowP n d
    · exact .inr (.inr (Int.lt_of_not_ge fun h4 => h1 ⟨hd, h2, h3, h4⟩))
    · omega
  · omega
theorem lowS_of_max {n d : Int} : lowS n d = if d < 0 then -((Nat.gcd (max n (-n)).toNat (max d (-d)).toNat : Nat) : Int) else ((Nat.gcd (max n (-n)).toNat (max d (-d)).toNat : Nat) : Int) := by
  have h1 : (max n (-n)).toNat = n.natAbs := by omega
  have h2 : (max d (-d)).toNat = d.natAbs := by omega
  rw [h1, h2]; rfl

/-- The sum, product, quotient of two fractions stay below what an int holds. -/
theorem fr_mul_bd {a b M N : Int} (h1 : -M ≤ a) (h2 : a ≤ M) (h3 : -N ≤ b) (h4 : b ≤ N) : -(M * N) ≤ a * b ∧ a * b ≤ M * N := by
  have hM : 0 ≤ M := by omega
  have hN : 0 ≤ N := by omega
  have h5 : (a * b).natAbs ≤ M.natAbs * N.natAbs := by
    rw [Int.natAbs_mul]
    exact Nat.mul_le_mul (by omega) (by omega)
  have h6 : ((M.natAbs * N.natAbs : Nat) : Int) = M * N := by
    rw [Int.natCast_mul, Int.natAbs_of_nonneg hM, Int.natAbs_of_nonneg hN]
  omega
theorem fr_mul_1e18 {a b : Int} (h1 : -1000000000 ≤ a) (h2 : a ≤ 1000000000) (h3 : -1000000000 ≤ b) (h4 : b ≤ 1000000000) : -1000000000000000000 ≤ a * b ∧ a * b ≤ 1000000000000000000 := by
  have := fr_mul_bd h1 h2 h3 h4
  simpa using this

/-- Division that rounds to zero. -/
theorem tdiv_facts {n d : Int} (hd : 0 < d) : d * n.tdiv d + n.tmod d = n ∧ n.tmod d < d ∧ -d < n.tmod d ∧ (0 ≤ n → 0 ≤ n.tmod d) ∧ (n < 0 → n.tmod d ≤ 0) := by
  refine ⟨Int.mul_tdiv_add_tmod n d, Int.tmod_lt_of_pos n hd, ?_, fun h => Int.tmod_nonneg d h, ?_⟩
  · obtain ⟨m, rfl⟩ : ∃ m : Int, n = -m := ⟨-n, by omega⟩
    rw [Int.neg_tmod]
    have := Int.tmod_lt_of_pos m hd
    omega
  · intro h
    obtain ⟨m, rfl⟩ : ∃ m : Int, n = -m := ⟨-n, by omega⟩
    rw [Int.neg_tmod]
    have := Int.tmod_nonneg d (show 0 ≤ m by omega)
    omega
theorem floor_of {n d q r : Int} (hd : 0 < d) (h : d * q + r = n) (h0 : 0 ≤ r) (h1 : r < d) : n / d = q := ((Int.ediv_emod_unique hd).2 ⟨by omega, h0, h1⟩).1
/-- The floor of a quotient, as the model has it: it looks at the rest. -/
theorem floor_rest {n d : Int} (hd : 0 < d) : (n.tmod d < 0 → n / d = n.tdiv d - 1) ∧ (¬ n.tmod d < 0 → n / d = n.tdiv d) := by
  obtain ⟨h1, h2, h3, h4, h5⟩ := tdiv_facts (n := n) hd
  refine ⟨fun h => floor_of (r := n.tmod d + d) hd ?_ (by omega) (by omega), fun h => floor_of (r := n.tmod d) hd h1 (by omega) h2⟩
  rw [Int.mul_sub]; omega
/-- .. as the program has it: it multiplies back. -/
theorem floor_back {n d : Int} (hd : 0 < d) : (n < n.tdiv d * d → n / d = n.tdiv d - 1) ∧ (¬ n < n.tdiv d * d → n / d = n.tdiv d) := by
  obtain ⟨h1, h2, h3, h4, h5⟩ := tdiv_facts (n := n) hd
  obtain ⟨a, b⟩ := floor_rest (n := n) hd
  have hc : n.tdiv d * d = d * n.tdiv d := Int.mul_comm _ _
  exact ⟨fun h => a (by omega), fun h => b (by omega)⟩
theorem tdiv_natAbs_le (n d : Int) : (n.tdiv d).natAbs ≤ n.natAbs := by
  rw [Int.natAbs_tdiv]; exact Nat.div_le_self _ _
theorem tdiv_bd {n d B : Int} (h0 : -B ≤ n) (h1 : n ≤ B) : -B ≤ n.tdiv d ∧ n.tdiv d ≤ B := by
  have := tdiv_natAbs_le n d
  omega
theorem floor_bd {n d B : Int} (h0 : -B ≤ n) (h1 : n ≤ B) : -B ≤ n / d ∧ n / d ≤ B := by
  have := Int.natAbs_ediv_le_natAbs n d
  omega
/-- A product of the quotient and the divisor stays near. -/
theorem tdiv_mul_bd {n d B : Int} (hd : 0 < d) (h0 : -B ≤ n) (h1 : n ≤ B) (h2 : d ≤ B) : -(2 * B) ≤ n.tdiv d * d ∧ n.tdiv d * d ≤ 2 * B := by
  obtain ⟨a1, a2, a3, a4, a5⟩ := tdiv_facts (n := n) hd
  have hc : n.tdiv d * d = d * n.tdiv d := Int.mul_comm _ _
  omega

/-- r is the root of n, rounded down. -/
def Root (r n : Nat) : Prop := r * r ≤ n ∧ n < (r + 1) * (r + 1)
theorem Root.unique {r s n : Nat} (h : Root r n) (k : Root s n) : r = s := by
  unfold Root at h k
  rcases Nat.lt_trichotomy r s with hlt | heq | hgt
  · have := Nat.mul_le_mul (show r + 1 ≤ s by omega) (show r + 1 ≤ s by omega)
    omega
  · exact heq
  · have := Nat.mul_le_mul (show s + 1 ≤ r by omega) (show s + 1 ≤ r by omega)
    omega
theorem Root.lt {r n m : Nat} (h : Root r n) (hm : n < m * m) : r < m := by
  apply Nat.lt_of_not_ge; intro hge
  have := Nat.mul_le_mul hge hge
  have := h.1
  omega
theorem root_exists (n : Nat) : ∃ r, Root r n := by
  induction n with
  | zero => exact ⟨0, by unfold Root; omega⟩
  | succ n ih =>
    obtain ⟨r, h1, h2⟩ := ih
    by_cases h : (r + 1) * (r + 1) ≤ n + 1
    · refine ⟨r + 1, h, ?_⟩
      have : (r + 1 + 1) * (r + 1 + 1) = (r + 1) * (r + 1) + (r + 1) + (r + 1) + 1 := by
        rw [Nat.add_mul, Nat.mul_add]; omega
      omega
    · exact ⟨r, by omega, by omega⟩
noncomputable def rootOf (n : Nat) : Nat := Classical.choose (root_exists n)
theorem rootOf_spec (n : Nat) : Root (rootOf n) n := Classical.choose_spec (root_exists n)
theorem Root.eq {r n : Nat} (h : Root r n) : r = rootOf n := h.unique (rootOf_spec n)

/-- A root of both parts of a fraction is a fraction. -/
theorem coprime_root {a b : Nat} (h : Nat.gcd (a * a) (b * b) = 1) : Nat.gcd a b = 1 := by
  have h1 : Nat.gcd a b ∣ Nat.gcd (a * a) (b * b) := Nat.dvd_gcd (Nat.dvd_trans (Nat.gcd_dvd_left _ _) (Nat.dvd_mul_right _ _)) (Nat.dvd_trans (Nat.gcd_dvd_right _ _) (Nat.dvd_mul_right _ _))
  rw [h] at h1
  exact Nat.dvd_one.1 h1
end Go.Proofs.YtchglkcfolannabDoor
