/- The simplest fraction within bounds: the arithmetic (own work). -/
import Derived.Test.YtchglkcfolannabDoorFrMath
namespace Go.Proofs.YtchglkcfolannabDoor

/-- The least and the greatest numerator for the denominator k. -/
def loK (p q : Int) (k : Int) : Int := -((-p * k) / q)
def hiK (p q : Int) (k : Int) : Int := (p * k) / q
theorem loK_le {p q k m : Int} (hq : 0 < q) : loK p q k ≤ m ↔ p * k ≤ m * q := by
  unfold loK
  rw [show (-((-p * k) / q) ≤ m) ↔ (-m ≤ (-p * k) / q) from by omega, Int.le_ediv_iff_mul_le hq, Int.neg_mul, Int.neg_mul]
  omega
theorem le_hiK {p q k m : Int} (hq : 0 < q) : m ≤ hiK p q k ↔ m * q ≤ p * k := by
  unfold hiK
  rw [Int.le_ediv_iff_mul_le hq]
/-- What is taken between the two. -/
def numK (lo hi : Int) : Int := min (max 0 lo) hi

/-- No smaller denominator serves. -/
def NoneBelow (a b c d : Int) (k : Nat) : Prop := ∀ j : Nat, 1 ≤ j → j < k → ¬ loK a b j ≤ hiK c d j

theorem simple_le {a b c d : Int} (hb : 0 < b) (hd : 0 < d) (hle : a * d ≤ c * b) {k : Nat} (hn : NoneBelow a b c d k) : (k : Int) ≤ b ∧ (k : Int) ≤ d := by
  refine ⟨Int.not_lt.1 fun h => hn b.toNat (by omega) (by omega) ?_, Int.not_lt.1 fun h => hn d.toNat (by omega) (by omega) ?_⟩
  · rw [Int.toNat_of_nonneg (by omega)]
    have h1 : loK a b b ≤ a := (loK_le hb).2 (Int.le_refl _)
    have h2 : a ≤ hiK c d b := (le_hiK hd).2 hle
    omega
  · rw [Int.toNat_of_nonneg (by omega)]
    have h1 : loK a b d ≤ c := (loK_le hb).2 hle
    have h2 : c ≤ hiK c d d := (le_hiK hd).2 (Int.le_refl _)
    omega

theorem simple_good {a b c d : Int} (ha : FrG a b) (hc : FrG c d) (hle : a * d ≤ c * b) {k : Nat} (hk : 1 ≤ k) (hk2 : k ≤ 1000) (hn : NoneBelow a b c d k) (hs : loK a b k ≤ hiK c d k) : FrG (numK (loK a b k) (hiK c d k)) k := by
  obtain ⟨hb, hb2, ha1, ha2, -⟩ := ha
  obtain ⟨hd, hd2, hc1, hc2, -⟩ := hc
  have hb' : 0 < b := by omega
  have hd' : 0 < d := by omega
  obtain ⟨hkb, hkd⟩ := simple_le hb' hd' hle hn
  obtain ⟨m, hm⟩ : ∃ m, m = numK (loK a b k) (hiK c d k) := ⟨_, rfl⟩
  have hlo : loK a b k ≤ m := by rw [hm]; unfold numK; omega
  have hhi : m ≤ hiK c d k := by rw [hm]; unfold numK; omega
  have h1 := (loK_le hb').1 hlo
  have h2 := (le_hiK hd').1 hhi
  have hbd : -1000000000 ≤ m ∧ m ≤ 1000000000 := by
    by_cases hp : 0 < loK a b k
    · have e : m = loK a b k := by rw [hm]; unfold numK; omega
      have hap : 0 ≤ a := Int.not_lt.1 fun hneg => by
        have : loK a b k ≤ 0 := (loK_le hb').2 (by rw [Int.zero_mul]; exact Int.mul_nonpos_of_nonpos_of_nonneg (by omega) (by omega))
        omega
      have : loK a b k ≤ a := (loK_le hb').2 (Int.mul_le_mul_of_nonneg_left hkb hap)
      omega
    · by_cases hng : hiK c d k < 0
      · have e : m = hiK c d k := by rw [hm]; unfold numK; omega
        have hcn : c ≤ 0 := Int.not_lt.1 fun hpos => by
          have : 0 ≤ hiK c d k := (le_hiK hd').2 (by rw [Int.zero_mul]; exact Int.mul_nonneg (by omega) (by omega))
          omega
        have : c ≤ hiK c d k := (le_hiK hd').2 (Int.mul_le_mul_of_nonpos_left hcn hkd)
        omega
      · have e : m = 0 := by rw [hm]; unfold numK; omega
        omega
  rw [← hm]
  refine ⟨by omega, by omega, hbd.1, hbd.2, ?_⟩
  rw [Int.natAbs_natCast]
  obtain ⟨g, hg⟩ : ∃ g, g = Nat.gcd m.natAbs k := ⟨_, rfl⟩
  rw [← hg]
  have hg0 : 0 < g := by rw [hg]; exact Nat.gcd_pos_of_pos_right _ (by omega)
  obtain ⟨k', hk'⟩ : g ∣ k := by rw [hg]; exact Nat.gcd_dvd_right _ _
  obtain ⟨m', hm'⟩ : (g : Int) ∣ m := by rw [hg]; exact Int.ofNat_dvd_left.2 (Nat.gcd_dvd_left _ _)
  apply Nat.le_antisymm _ hg0
  apply Nat.not_lt.1
  intro hg1
  have hk0 : 1 ≤ k' := by
    rcases Nat.eq_zero_or_pos k' with h | h
    · rw [h] at hk'; omega
    · omega
  have hklt : k' < k := by
    rw [hk']
    have := Nat.mul_le_mul_right k' (show 2 ≤ g by omega)
    omega
  refine hn k' hk0 hklt ?_
  have hgi : (0 : Int) < g := by omega
  have e1 : a * k' ≤ m' * b := by
    have h3 : (g : Int) * (a * k') ≤ g * (m' * b) := by
      have : (g : Int) * (a * k') = a * k := by rw [hk', Int.natCast_mul]; simp [Int.mul_left_comm]
      have : (g : Int) * (m' * b) = m * b := by rw [hm', Int.mul_assoc]
      omega
    exact Int.le_of_mul_le_mul_left h3 hgi
  have e2 : m' * d ≤ c * k' := by
    have h3 : (g : Int) * (m' * d) ≤ g * (c * k') := by
      have : (g : Int) * (c * k') = c * k := by rw [hk', Int.natCast_mul]; simp [Int.mul_left_comm]
      have : (g : Int) * (m' * d) = m * d := by rw [hm', Int.mul_assoc]
      omega
    exact Int.le_of_mul_le_mul_left h3 hgi
  have f1 : loK a b k' ≤ m' := (loK_le hb').2 e1
  have f2 : m' ≤ hiK c d k' := (le_hiK hd').2 e2
  omega

/-- A fraction that is valid is what its own parts are brought to. -/
theorem low_of_good {p q : Int} (h : FrG p q) : lowP p q = p ∧ lowQ p q = q ∧ lowB p q = true := by
  obtain ⟨h1, h2, h3, h4, h5⟩ := h
  have hs : lowS p q = 1 := by unfold lowS; rw [if_neg (by omega), h5]; rfl
  have hp : lowP p q = p := by unfold lowP; rw [hs]; simp
  have hq : lowQ p q = q := by unfold lowQ; rw [hs]; simp
  refine ⟨hp, hq, ?_⟩
  unfold lowB
  rw [hp, hq]
  simp; omega
end Go.Proofs.YtchglkcfolannabDoor
