/- Products of limb lists: the values of rows and of carries. -/
import Derived.Test.YtlkdelhmjjnnnaaAddSub
namespace Go.Proofs.Ytlkdelhmjjnnnaa
open Go.RowKit Go.Joins

theorem valT_pow (xs : List Int) (t : Int) : valT xs t = val xs + 10000 ^ xs.length * t := by
  induction xs with
  | nil => simp [valT, val_nil]
  | cons x xs ih =>
    rw [val_cons, List.length_cons, Int.pow_succ]
    show x + 10000 * valT xs t = _
    rw [ih, Int.mul_add, ← Int.mul_assoc 10000, Int.mul_comm 10000 (10000 ^ xs.length)]
    omega
theorem val_set_add : ∀ {R : List Int} {j : Nat}, j < R.length → ∀ v : Int, val (R.set j (R[j]?.getD 0 + v)) = val R + 10000 ^ j * v
  | [], j, h, v => by simp at h
  | x :: R, 0, h, v => by simp [val_cons]; omega
  | x :: R, j + 1, h, v => by
    have ih := val_set_add (R := R) (j := j) (by simpa using h) v
    rw [List.set_cons_succ, val_cons, val_cons, List.getElem?_cons_succ, ih, Int.mul_add, ← Int.mul_assoc, Int.pow_succ, Int.mul_comm 10000 (10000 ^ j)]
    omega
theorem val_take_succ {xs : List Int} {i : Nat} (h : i < xs.length) : val (xs.take (i + 1)) = val (xs.take i) + 10000 ^ i * xs[i]?.getD 0 := by
  rw [List.take_succ_eq_append_getElem h, List.getElem?_eq_getElem h]
  unfold val
  rw [valT_snoc, valT_pow, Int.mul_zero, Int.add_zero]
  have : (xs.take i).length = i := by simp; omega
  rw [this]
  rfl
theorem mul_step {R ys : List Int} {V x : Int} {i k : Nat} (h : val R = V + 10000 ^ i * (x * val (ys.take k))) (hk : k < ys.length) (hR : i + k < R.length) :
    val (R.set (i + k) (R[i + k]?.getD 0 + x * ys[k]?.getD 0)) = V + 10000 ^ i * (x * val (ys.take (k + 1))) := by
  rw [val_set_add hR, h, val_take_succ hk, Int.pow_add, Int.mul_add, Int.mul_add, Int.add_assoc]
  congr 2
  simp only [Int.mul_assoc, Int.mul_left_comm]
theorem mul_row {R xs ys : List Int} {i : Nat} (hi : i < xs.length) (h : val R = val (xs.take i) * val ys + 10000 ^ i * (xs[i]?.getD 0 * val (ys.take ys.length))) : val R = val (xs.take (i + 1)) * val ys := by
  rw [h, val_take_succ hi, List.take_length, Int.add_mul, Int.mul_assoc]

/-- Bounds ahead of a row, and in the midst of it. -/
def Bo (i : Nat) (R : List Int) : Prop := ∀ j : Nat, 0 ≤ R[j]?.getD 0 ∧ R[j]?.getD 0 ≤ (i : Int) * 99980001
def Bd (i k : Nat) (R : List Int) : Prop := ∀ j : Nat, 0 ≤ R[j]?.getD 0 ∧ R[j]?.getD 0 ≤ (i : Int) * 99980001 + 99980001 ∧ (i + k ≤ j → R[j]?.getD 0 ≤ (i : Int) * 99980001)
theorem Bo.start {i : Nat} {R : List Int} (h : Bo i R) : Bd i 0 R := fun j => by have := h j; omega
theorem Bd.stop {i k : Nat} {R : List Int} (h : Bd i k R) : Bo (i + 1) R := fun j => by have := h j; omega
theorem limb_mul {x y : Int} (h0 : 0 ≤ x) (h1 : x ≤ 9999) (h2 : 0 ≤ y) (h3 : y ≤ 9999) : 0 ≤ x * y ∧ x * y ≤ 99980001 := by
  refine ⟨Int.mul_nonneg h0 h2, ?_⟩
  have := Int.mul_le_mul h1 h3 h2 (by omega : (0 : Int) ≤ 9999)
  omega
theorem Bd.step {i k : Nat} {R : List Int} {p : Int} (h : Bd i k R) (hp : 0 ≤ p ∧ p ≤ 99980001) : Bd i (k + 1) (R.set (i + k) (R[i + k]?.getD 0 + p)) := by
  intro j
  have h1 := h j
  by_cases e : i + k = j
  · subst e
    have h2 := h1.2.2 (Nat.le_refl _)
    by_cases hl : i + k < R.length
    · rw [List.getElem?_set_self hl]
      simp only [Option.getD_some]
      omega
    · rw [List.set_eq_of_length_le (by omega)]
      omega
  · rw [List.getElem?_set_ne e]
    omega
theorem Bo.zeros (n : Nat) : Bo 0 (List.replicate n 0) := fun j => by
  by_cases h : j < n
  · simp [h]
  · simp [h]
theorem val_zeros (n : Nat) : val (List.replicate n 0) = 0 := by
  induction n with
  | zero => rfl
  | succ n ih => rw [List.replicate_succ, val_cons, ih]; rfl
theorem carry_step {out R : List Int} {k : Nat} {c T d c' : Int} (h : valT out (c + val (R.drop k)) = T) (hd : d + 10000 * c' = R[k]?.getD 0 + c) : valT (out ++ [d]) (c' + val (R.drop (k + 1))) = T := by
  rw [valT_snoc, ← h, val_drop R k]
  congr 1
  omega
theorem set_mid {out R : List Int} {k : Nat} (ho : out.length = k) (hk : k < R.length) (d : Int) : (out ++ R.drop k).set k d = (out ++ [d]) ++ R.drop (k + 1) := by
  subst ho
  rw [List.drop_eq_getElem_cons hk, List.set_append_right _ _ (Nat.le_refl _), Nat.sub_self, List.set_cons_zero, List.append_assoc, List.singleton_append]
theorem get_mid {out R : List Int} {k : Nat} (ho : out.length = k) : (out ++ R.drop k)[k]?.getD 0 = R[k]?.getD 0 := by
  subst ho
  rw [List.getElem?_append_right (Nat.le_refl _), Nat.sub_self, List.getElem?_drop, Nat.add_zero]
theorem mul_end {out R xs ys : List Int} {c : Int} (h : valT out c = val R) (hr : Rng 0 9999 out) (hc : 0 ≤ c) (hR : val R = val xs * val ys) (hl : out.length = xs.length + ys.length) (hx : Rng 0 9999 xs) (hy : Rng 0 9999 ys) : val out = val xs * val ys := by
  have h1 := val_lt hx
  have h2 := val_lt hy
  have h3 := val_nonneg hx
  have h4 := val_nonneg hy
  have h5 := val_nonneg hr
  have e2 : ((10000 ^ out.length : Nat) : Int) = 10000 ^ out.length := by simp
  have hp : val xs * val ys < 10000 ^ out.length := by
    have : (val xs).toNat * (val ys).toNat < 10000 ^ out.length := by
      rw [hl, Nat.pow_add]
      exact Nat.mul_lt_mul'' h1 h2
    have e : ((val xs).toNat * (val ys).toNat : Nat) = val xs * val ys := by
      rw [Int.natCast_mul, Int.toNat_of_nonneg h3, Int.toNat_of_nonneg h4]
    omega
  rw [valT_pow, hR] at h
  rcases Int.lt_or_le 0 c with h6 | h6
  · have : (10000 : Int) ^ out.length * 1 ≤ 10000 ^ out.length * c := Int.mul_le_mul_of_nonneg_left (by omega) (by rw [← e2]; exact Int.natCast_nonneg _)
    omega
  · obtain rfl : c = 0 := by omega
    omega
theorem num_mul {n m : Bool} {xs ys out : List Int} (h : val out = val xs * val ys) : num (n != m) out = num n xs * num m ys := by
  unfold num
  cases n <;> cases m <;> simp [h, Int.neg_mul, Int.mul_neg]
end Go.Proofs.Ytlkdelhmjjnnnaa
