/- Limbs and numbers: plain lists and integers, no Go in sight. -/
import Derived.Test.YtllbbfkgobhcgaaPwOrder
namespace Go.Proofs.Ytllbbfkgobhcgaa

/-- The number that limbs stand for, with a number t above them. -/
def valT : List Int → Int → Int
  | [], t => t
  | x :: xs, t => x + 10000 * valT xs t
def val (xs : List Int) : Int := valT xs 0

theorem valT_snoc (xs : List Int) (y t : Int) : valT (xs ++ [y]) t = valT xs (y + 10000 * t) := by
  induction xs with
  | nil => simp [valT]
  | cons x xs ih => simp [valT, ih]
theorem val_nil : val [] = 0 := rfl
theorem val_cons (x : Int) (xs : List Int) : val (x :: xs) = x + 10000 * val xs := rfl
theorem val_drop (xs : List Int) (i : Nat) : val (xs.drop i) = xs[i]?.getD 0 + 10000 * val (xs.drop (i + 1)) := by
  by_cases h : i < xs.length
  · rw [List.drop_eq_getElem_cons h, val_cons, List.getElem?_eq_getElem h]; rfl
  · rw [List.drop_eq_nil_of_le (by omega), List.drop_eq_nil_of_le (by omega), List.getElem?_eq_none (by omega)]; rfl

theorem Rng.nil (lo hi : Int) : Rng lo hi [] := fun k hk => by simp at hk
theorem Rng.cons {lo hi x : Int} {xs : List Int} (hx : lo ≤ x ∧ x ≤ hi) (h : Rng lo hi xs) : Rng lo hi (x :: xs) := by
  intro k hk
  rcases k with _ | k
  · simpa using hx
  · simpa using h k (by simpa using hk)
theorem Rng.head {lo hi x : Int} {xs : List Int} (h : Rng lo hi (x :: xs)) : lo ≤ x ∧ x ≤ hi := by simpa using h 0 (by simp)
theorem Rng.tail {lo hi x : Int} {xs : List Int} (h : Rng lo hi (x :: xs)) : Rng lo hi xs := fun k hk => by simpa using h (k + 1) (by simpa using hk)
theorem Rng.snoc {lo hi y : Int} {xs : List Int} (h : Rng lo hi xs) (hy : lo ≤ y ∧ y ≤ hi) : Rng lo hi (xs ++ [y]) := by
  intro k hk
  by_cases e : k < xs.length
  · rw [List.getElem?_append_left e]; exact h k e
  · have : k = xs.length := by simp at hk; omega
    subst this
    simpa using hy
theorem Rng.take {lo hi : Int} {xs : List Int} (h : Rng lo hi xs) (n : Nat) : Rng lo hi (xs.take n) := by
  intro k hk
  have h1 : k < n ∧ k < xs.length := by simp at hk; omega
  rw [List.getElem?_take, if_pos h1.1]
  exact h k h1.2
theorem Rng.at0 {xs : List Int} (h : Rng 0 9999 xs) (k : Nat) : 0 ≤ xs[k]?.getD 0 ∧ xs[k]?.getD 0 ≤ 9999 := by
  by_cases hk : k < xs.length
  · exact h k hk
  · rw [List.getElem?_eq_none (by omega)]; simp

theorem valT_neg {xs : List Int} (h : Rng 0 9999 xs) {t : Int} (ht : t ≤ -1) : valT xs t ≤ -1 := by
  induction xs with
  | nil => exact ht
  | cons x xs ih =>
    have := ih h.tail
    have := h.head
    simp only [valT]
    omega
theorem val_nonneg {xs : List Int} (h : Rng 0 9999 xs) : 0 ≤ val xs := by
  induction xs with
  | nil => simp [val_nil]
  | cons x xs ih =>
    have := ih h.tail
    have := h.head
    rw [val_cons]
    omega
theorem val_snoc_zero (xs : List Int) : val (xs ++ [0]) = val xs := by
  unfold val
  rw [valT_snoc]
  rfl

/-- The limbs of a number, the last one not 0. -/
def digsF : Nat → Nat → List Int
  | 0, _ => []
  | k + 1, n => if n = 0 then [] else ((n % 10000 : Nat) : Int) :: digsF k (n / 10000)
def digs (n : Nat) : List Int := digsF n n
theorem digsF_more : ∀ (k n : Nat), n ≤ k → digsF k n = digs n := by
  have key : ∀ (k l n : Nat), n ≤ k → n ≤ l → digsF k n = digsF l n := by
    intro k
    induction k with
    | zero => intro l n h1 _; obtain rfl : n = 0 := by omega
              cases l <;> simp [digsF]
    | succ k ih =>
      intro l n h1 h2
      cases l with
      | zero => obtain rfl : n = 0 := by omega
                simp [digsF]
      | succ l =>
        simp only [digsF]
        by_cases hn : n = 0
        · rw [if_pos hn, if_pos hn]
        · rw [if_neg hn, if_neg hn, ih l (n / 10000) (by omega) (by omega)]
  exact fun k n h => key k n n h (Nat.le_refl _)
theorem digs_zero : digs 0 = [] := rfl
theorem digs_step {n : Nat} (h : 0 < n) : digs n = ((n % 10000 : Nat) : Int) :: digs (n / 10000) := by
  obtain ⟨k, rfl⟩ : ∃ k, n = k + 1 := ⟨n - 1, by omega⟩
  show digsF (k + 1) (k + 1) = _
  simp only [digsF]
  rw [if_neg (by omega), digsF_more k _ (by omega)]
theorem digs_all (P : Nat → List Int → Prop) (h0 : P 0 []) (hs : ∀ n, 0 < n → P (n / 10000) (digs (n / 10000)) → P n (((n % 10000 : Nat) : Int) :: digs (n / 10000))) : ∀ n, P n (digs n) := by
  intro n
  induction n using Nat.strongRecOn with
  | _ n ih =>
    by_cases h : n = 0
    · subst h; exact h0
    · rw [digs_step (by omega)]
      exact hs n (by omega) (ih _ (by omega))
theorem digs_rng (n : Nat) : Rng 0 9999 (digs n) := digs_all (fun _ xs => Rng 0 9999 xs) (Rng.nil _ _) (fun n _ h => h.cons (by omega)) n
theorem digs_val (n : Nat) : val (digs n) = n := digs_all (fun n xs => val xs = n) rfl (fun n _ h => by rw [val_cons, h]; omega) n
theorem digs_eq_nil {n : Nat} (h : digs n = []) : n = 0 := by
  by_cases hn : n = 0
  · exact hn
  · rw [digs_step (by omega)] at h; cases h

/-- The last limb is not 0. -/
def Trimmed (xs : List Int) : Prop := 0 < xs.length → 0 < xs[xs.length - 1]?.getD 0
theorem digs_trimmed (n : Nat) : Trimmed (digs n) := by
  refine digs_all (fun n xs => (xs = digs n) → Trimmed xs) (fun _ h => by simp at h) (fun n hn ih _ => ?_) n rfl
  intro _
  by_cases h : n / 10000 = 0
  · rw [h, digs_zero]
    simp
    omega
  · have h1 : 0 < (digs (n / 10000)).length := by
      rcases e : digs (n / 10000) with _ | ⟨a, l⟩
      · exact absurd (digs_eq_nil e) h
      · simp
    have h2 := ih rfl h1
    obtain ⟨m, hm⟩ : ∃ m, (digs (n / 10000)).length = m + 1 := ⟨(digs (n / 10000)).length - 1, by omega⟩
    rw [hm] at h2
    simp only [List.length_cons, hm, Nat.add_sub_cancel] at h2 ⊢
    rw [List.getElem?_cons_succ]
    exact h2
theorem digs_of : ∀ {xs : List Int}, Rng 0 9999 xs → Trimmed xs → xs = digs (val xs).toNat := by
  intro xs
  induction xs with
  | nil => intro _ _; rfl
  | cons x xs ih =>
    intro h ht
    have hx := h.head
    have hv := val_nonneg h.tail
    have ht' : Trimmed xs := by
      intro hp
      have := ht (by simp)
      obtain ⟨m, hm⟩ : ∃ m, xs.length = m + 1 := ⟨xs.length - 1, by omega⟩
      rw [hm]
      simp only [List.length_cons, hm, Nat.add_sub_cancel] at this ⊢
      rw [List.getElem?_cons_succ] at this
      exact this
    have e := ih h.tail ht'
    have hpos : 0 < (val (x :: xs)).toNat := by
      rw [val_cons]
      by_cases hz : val xs = 0
      · rw [hz] at e
        simp only [Int.toNat_zero, digs_zero] at e
        subst e
        have := ht (by simp)
        simp at this
        omega
      · omega
    rw [digs_step hpos]
    have e1 : (val (x :: xs)).toNat % 10000 = x.toNat := by rw [val_cons]; omega
    have e2 : (val (x :: xs)).toNat / 10000 = (val xs).toNat := by rw [val_cons]; omega
    rw [e1, e2, ← e]
    congr 1
    omega

/-- How many limbs are left without the zeros at the end. -/
def trimTo (xs : List Int) : Nat → Nat
  | 0 => 0
  | k + 1 => if xs[k]?.getD 0 = 0 then trimTo xs k else k + 1
theorem trimTo_le (xs : List Int) : ∀ k, trimTo xs k ≤ k
  | 0 => Nat.le_refl _
  | k + 1 => by
    have := trimTo_le xs k
    simp only [trimTo]
    split <;> omega
theorem trim_digs {xs : List Int} (h : Rng 0 9999 xs) : xs.take (trimTo xs xs.length) = digs (val xs).toNat := by
  have key : ∀ k, k ≤ xs.length → val (xs.take (trimTo xs k)) = val (xs.take k) ∧ Trimmed (xs.take (trimTo xs k)) := by
    intro k
    induction k with
    | zero => intro _; exact ⟨rfl, fun h => by simp [trimTo] at h⟩
    | succ k ih =>
      intro hk
      obtain ⟨i1, i2⟩ := ih (by omega)
      have hk' : k < xs.length := by omega
      by_cases h0 : xs[k]?.getD 0 = 0
      · have e : xs[k] = 0 := by simpa [List.getElem?_eq_getElem hk'] using h0
        simp only [trimTo, if_pos h0]
        refine ⟨?_, i2⟩
        rw [i1, List.take_succ_eq_append_getElem hk', e, val_snoc_zero]
      · simp only [trimTo, if_neg h0]
        refine ⟨trivial, fun _ => ?_⟩
        have hr := h k hk'
        have hl : (xs.take (k + 1)).length = k + 1 := by rw [List.length_take]; omega
        rw [hl, Nat.add_sub_cancel, List.getElem?_take, if_pos (by omega)]
        omega
  obtain ⟨k1, k2⟩ := key xs.length (Nat.le_refl _)
  rw [List.take_length] at k1
  rw [digs_of (h.take _) k2, k1]

/-- The order of limbs is that of numbers. -/
theorem cmpTo_tail (xs ys : List Int) : ∀ k, cmpTo xs ys (k + 1) = if cmpTo xs.tail ys.tail k = 0 then cmpI (xs[0]?.getD 0) (ys[0]?.getD 0) else cmpTo xs.tail ys.tail k := by
  have ht : ∀ (zs : List Int) (k : Nat), zs[k + 1]?.getD 0 = zs.tail[k]?.getD 0 := fun zs k => by cases zs <;> simp
  intro k
  induction k with
  | zero => simp [cmpTo, cmpI]
  | succ k ih =>
    have e1 : cmpTo xs ys (k + 1 + 1) = if xs.tail[k]?.getD 0 < ys.tail[k]?.getD 0 then -1 else if ys.tail[k]?.getD 0 < xs.tail[k]?.getD 0 then 1 else cmpTo xs ys (k + 1) := by
      rw [← ht xs k, ← ht ys k]; rfl
    have e2 : cmpTo xs.tail ys.tail (k + 1) = if xs.tail[k]?.getD 0 < ys.tail[k]?.getD 0 then -1 else if ys.tail[k]?.getD 0 < xs.tail[k]?.getD 0 then 1 else cmpTo xs.tail ys.tail k := rfl
    by_cases h1 : xs.tail[k]?.getD 0 < ys.tail[k]?.getD 0
    · rw [if_pos h1] at e1 e2
      rw [e1, e2]; rfl
    · by_cases h2 : ys.tail[k]?.getD 0 < xs.tail[k]?.getD 0
      · rw [if_neg h1, if_pos h2] at e1 e2
        rw [e1, e2]; rfl
      · rw [if_neg h1, if_neg h2] at e1 e2
        rw [e1, e2, ih]
theorem cmpTo_val : ∀ (N : Nat) (xs ys : List Int), Rng 0 9999 xs → Rng 0 9999 ys → xs.length ≤ N → ys.length ≤ N → cmpTo xs ys N = cmpI (val xs) (val ys) := by
  have hd : ∀ zs : List Int, val zs = zs[0]?.getD 0 + 10000 * val zs.tail := fun zs => by cases zs <;> simp [val_cons, val_nil]
  have tl : ∀ zs : List Int, Rng 0 9999 zs → Rng 0 9999 zs.tail := fun zs h => by cases zs; exact Rng.nil _ _; exact h.tail
  intro N
  induction N with
  | zero =>
    intro xs ys _ _ h1 h2
    obtain rfl := List.eq_nil_of_length_eq_zero (by omega : xs.length = 0)
    obtain rfl := List.eq_nil_of_length_eq_zero (by omega : ys.length = 0)
    rfl
  | succ N ih =>
    intro xs ys hx hy h1 h2
    rw [cmpTo_tail, ih xs.tail ys.tail (tl _ hx) (tl _ hy) (by simp; omega) (by simp; omega)]
    have a1 := hx.at0 0
    have a2 := hy.at0 0
    rw [hd xs, hd ys]
    unfold cmpI
    split <;> (repeat' split) <;> omega
end Go.Proofs.Ytllbbfkgobhcgaa
