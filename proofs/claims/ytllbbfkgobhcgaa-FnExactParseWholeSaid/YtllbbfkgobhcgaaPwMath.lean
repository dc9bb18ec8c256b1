/- Decimal texts of wholes: what they are worth, and what they are the text of. -/
import Derived.Test.YtllbbfkgobhcgaaPwText
import Derived.Test.YtllbbfkgobhcgaaPwMake
namespace Go.Proofs.Ytllbbfkgobhcgaa
open Go.RowKit Go.Joins

def dg (s : ByteArray) (i : Nat) : Nat := (s.data[i]?.getD 0).toNat - 48
/-- The value of the first i bytes, read as digits. -/
def valTo (s : ByteArray) : Nat → Nat
  | 0 => 0
  | i + 1 => 10 * valTo s i + dg s i
def dig (s : ByteArray) (i : Nat) : Prop := 48 ≤ (s.data[i]?.getD 0).toNat ∧ (s.data[i]?.getD 0).toNat ≤ 57
theorem get_data {s : ByteArray} {i : Nat} (h : i < s.size) : s.data[i]?.getD 0 = s[i] := by rw [Array.getElem?_eq_getElem h]; rfl
theorem first_bad (s : ByteArray) : ∀ n : Nat, (∃ m, m < n ∧ (∀ k, k < m → dig s k) ∧ ¬ dig s m) ∨ ∀ k, k < n → dig s k
  | 0 => .inr fun k hk => by omega
  | n + 1 => by
    rcases first_bad s n with ⟨m, h1, h2, h3⟩ | h
    · exact .inl ⟨m, by omega, h2, h3⟩
    · by_cases hd : dig s n
      · refine .inr fun k hk => ?_
        by_cases e : k = n
        · subst e; exact hd
        · exact h k (by omega)
      · exact .inl ⟨n, by omega, h, hd⟩
/-- The value of k digits from p on. -/
def sg (s : ByteArray) (p : Nat) : Nat → Nat
  | 0 => 0
  | k + 1 => 10 * sg s p k + dg s (p + k)
theorem sg_four (s : ByteArray) (p : Nat) : valTo s (p + 4) = sg s p 4 + 10000 * valTo s p := by simp only [valTo, sg, Nat.add_zero]; omega
theorem sg_zero (s : ByteArray) : ∀ k : Nat, valTo s k = sg s 0 k
  | 0 => rfl
  | k + 1 => by rw [valTo, sg, sg_zero s k, Nat.zero_add]
theorem dg_le {s : ByteArray} {i : Nat} (h : dig s i) : dg s i ≤ 9 := by unfold dig at h; unfold dg; omega
theorem sg_lt (s : ByteArray) (p : Nat) : ∀ k : Nat, (∀ j, j < k → dig s (p + j)) → sg s p k < 10 ^ k
  | 0, _ => by simp [sg]
  | k + 1, h => by
    have h1 := sg_lt s p k (fun j hj => h j (by omega))
    have h2 := dg_le (h k (by omega))
    rw [sg, Nat.pow_succ]; omega
theorem sg_le (s : ByteArray) (p k : Nat) (hk : k ≤ 4) (h : ∀ j, j < k → dig s (p + j)) : sg s p k ≤ 9999 := by
  have h1 := sg_lt s p k h
  have h2 : 10 ^ k ≤ 10 ^ 4 := Nat.pow_le_pow_right (by omega) hk
  omega
theorem chr {s : ByteArray} {i : Nat} (hi : i < s.size) (h : dig s i) : UInt8.ofNat (48 + dg s i) = s.data[i]'hi := by
  unfold dig at h
  unfold dg
  have e : s.data[i]?.getD 0 = s.data[i]'hi := by rw [Array.getElem?_eq_getElem hi]; rfl
  rw [e] at h ⊢
  rw [show 48 + ((s.data[i]'hi).toNat - 48) = (s.data[i]'hi).toNat from by omega]
  exact UInt8.ofNat_toNat
theorem val_pos {s : ByteArray} (h0 : 1 ≤ dg s 0) : ∀ i : Nat, 1 ≤ i → 1 ≤ valTo s i
  | 0, h => by omega
  | 1, _ => by simp only [valTo]; omega
  | i + 2, _ => by have := val_pos h0 (i + 1) (by omega); rw [valTo]; omega
theorem num_take {s : ByteArray} (hd : ∀ k, k < s.size → dig s k) (h0 : 1 ≤ dg s 0) : ∀ i : Nat, 1 ≤ i → i ≤ s.size → Lib.decDigits (valTo s i) = s.data.toList.take i
  | 0, h, _ => by omega
  | 1, _, hs => by
    have hl : 0 < s.data.toList.length := by rw [Array.length_toList]; exact hs
    have h9 := dg_le (hd 0 (by omega))
    rw [List.take_succ_eq_append_getElem hl, show valTo s 1 = dg s 0 from by simp only [valTo]; omega, Lib.decDigits_one (by omega), chr hs (hd 0 hs)]
    simp
  | i + 2, _, hs => by
    have hl : i + 1 < s.data.toList.length := by rw [Array.length_toList]; exact hs
    have h1 := val_pos h0 (i + 1) (by omega)
    have h9 := dg_le (hd (i + 1) (by omega))
    rw [List.take_succ_eq_append_getElem hl, ← num_take hd h0 (i + 1) (by omega) (by omega), valTo, Lib.decDigits, dif_neg (by omega),
      show (10 * valTo s (i + 1) + dg s (i + 1)) / 10 = valTo s (i + 1) from by omega, show (10 * valTo s (i + 1) + dg s (i + 1)) % 10 = dg s (i + 1) from by omega, chr hs (hd (i + 1) hs)]
    simp
/-- A numeral that does not begin with 0 is the text of its value. -/
theorem num_text {s : ByteArray} (hd : ∀ k, k < s.size → dig s k) (hs : 1 ≤ s.size) (h0 : 1 ≤ dg s 0) : numB (valTo s s.size) = s := by
  unfold numB
  rw [num_take hd h0 s.size hs (Nat.le_refl _), List.take_of_length_le (by rw [Array.length_toList]; exact Nat.le_refl _)]
theorem dec_first (n : Nat) (h0 : 1 ≤ n) : ∃ c l, Lib.decDigits n = c :: l ∧ c.toNat ≠ 48 := by
  induction n using Nat.strongRecOn with
  | _ n ih =>
    by_cases h : n < 10
    · exact ⟨_, _, Lib.decDigits_one h, by rw [UInt8.toNat_ofNat']; omega⟩
    · obtain ⟨c, l, e, hc⟩ := ih (n / 10) (by omega) (by omega)
      exact ⟨c, l ++ [UInt8.ofNat (48 + n % 10)], by rw [Lib.decDigits, dif_neg h, e]; rfl, hc⟩
/-- One that begins with 0 is the text of no number but 0. -/
theorem num_not {s : ByteArray} {n : Nat} (h : 1 ≤ n) (e : numB n = s) : (s.data[0]?.getD 0).toNat ≠ 48 := by
  obtain ⟨c, l, e1, hc⟩ := dec_first n h
  have : s.data = (Lib.decDigits n).toArray := by rw [← e]; rfl
  rw [this, e1]
  simpa using hc

theorem app4 (n : Nat) (h : 10000 ≤ n) : numB n = numB (n / 10000) ++ (oneStr (48 + ((n / 1000 : Nat) : Int) % 10) ++ oneStr (48 + ((n / 100 : Nat) : Int) % 10) ++ oneStr (48 + ((n / 10 : Nat) : Int) % 10) ++ oneStr (48 + (n : Int) % 10)) := by
  rw [← numStr_big (n := n) (by omega), ← numStr_big (n := n / 10) (by omega), ← numStr_big (n := n / 10 / 10) (by omega), ← numStr_big (n := n / 10 / 10 / 10) (by omega)]
  rw [show n / 10 / 10 / 10 / 10 = n / 10000 from by omega, show n / 10 / 10 / 10 = n / 1000 from by omega, show n / 10 / 10 = n / 100 from by omega]
  apply ByteArray.ext
  simp
theorem ones (x : Nat) (h : x < 10) : oneStr (48 + (x : Int) % 10) = numB x := by
  rw [← numStr_small h]; congr 1; omega
theorem zero_one : oneStr (48 + ((0 : Nat) : Int) % 10) = zeros 1 := rfl
theorem pad_four (x : Nat) (h : x ≤ 9999) : pad4 x = oneStr (48 + ((x / 1000 : Nat) : Int) % 10) ++ oneStr (48 + ((x / 100 : Nat) : Int) % 10) ++ oneStr (48 + ((x / 10 : Nat) : Int) % 10) ++ oneStr (48 + (x : Int) % 10) := by
  unfold pad4
  by_cases h1 : x < 10
  · rw [ones x h1, numB_len, Lib.decDigits_length, Lib.nDigits_small h1, show x / 1000 = 0 from by omega, show x / 100 = 0 from by omega, show x / 10 = 0 from by omega]
    rfl
  · rw [← numStr_big h1]
    by_cases h2 : x < 100
    · rw [ones (x / 10) (by omega), ByteArray.size_append, oneStr_size, numB_len, Lib.decDigits_length, Lib.nDigits_small (by omega), show x / 1000 = 0 from by omega, show x / 100 = 0 from by omega]
      apply ByteArray.ext
      simp [zeros, oneStr]
    · rw [← numStr_big (n := x / 10) (by omega)]
      by_cases h3 : x < 1000
      · rw [show x / 10 / 10 = x / 100 from by omega, ones (x / 100) (by omega), ByteArray.size_append, ByteArray.size_append, oneStr_size, oneStr_size, numB_len, Lib.decDigits_length, Lib.nDigits_small (by omega), show x / 1000 = 0 from by omega]
        apply ByteArray.ext
        simp [zeros, oneStr]
      · rw [← numStr_big (n := x / 10 / 10) (by omega), show x / 10 / 10 / 10 = x / 1000 from by omega, show x / 10 / 10 = x / 100 from by omega, ones (x / 1000) (by omega), ByteArray.size_append, ByteArray.size_append, ByteArray.size_append, oneStr_size, oneStr_size, oneStr_size, numB_len, Lib.decDigits_length, Lib.nDigits_small (by omega)]
        apply ByteArray.ext
        simp [zeros]
theorem num_pad (n : Nat) (h : 10000 ≤ n) : numB n = numB (n / 10000) ++ pad4 (n % 10000) := by
  rw [app4 n h, pad_four _ (by omega), show ((n % 10000 / 1000 : Nat) : Int) % 10 = ((n / 1000 : Nat) : Int) % 10 from by omega, show ((n % 10000 / 100 : Nat) : Int) % 10 = ((n / 100 : Nat) : Int) % 10 from by omega,
    show ((n % 10000 / 10 : Nat) : Int) % 10 = ((n / 10 : Nat) : Int) % 10 from by omega, show ((n % 10000 : Nat) : Int) % 10 = (n : Int) % 10 from by omega]
theorem tx_cons (x : Int) (xs : List Int) : ∀ k : Nat, k < xs.length → tx (x :: xs) k = tx xs k
  | 0, h => by
    simp only [tx, List.length_cons]
    rw [show xs.length + 1 - 1 = (xs.length - 1) + 1 from by omega, List.getElem?_cons_succ]
  | k + 1, h => by
    simp only [tx, List.length_cons]
    rw [tx_cons x xs k (by omega), show xs.length + 1 - 2 - k = (xs.length - 2 - k) + 1 from by omega, List.getElem?_cons_succ]
theorem tx_digs (n : Nat) (h : 0 < n) : tx (digs n) ((digs n).length - 1) = numB n := by
  induction n using Nat.strongRecOn with
  | _ n ih =>
    rw [digs_step h]
    by_cases h1 : n < 10000
    · rw [show n / 10000 = 0 from by omega, digs_zero]
      simp only [List.length_cons, List.length_nil]
      rw [show n % 10000 = n from by omega]
      rfl
    · have hn : 0 < (digs (n / 10000)).length := by
        rw [digs_step (by omega)]; simp
      have e : (((n % 10000 : Nat) : Int) :: digs (n / 10000)).length - 1 = ((digs (n / 10000)).length - 1) + 1 := by rw [List.length_cons]; omega
      rw [e, tx, tx_cons _ _ _ (by omega), ih (n / 10000) (by omega) (by omega), List.length_cons, show (digs (n / 10000)).length + 1 - 2 - ((digs (n / 10000)).length - 1) = 0 from by omega, num_pad n (by omega)]
      rfl
theorem txW_digs (neg : Bool) (n : Nat) : txW neg (digs n) = if n = 0 then ⟨#[48]⟩ else signB neg ++ numB n := by
  unfold txW
  by_cases h : n = 0
  · subst h; rfl
  · have : 0 < (digs n).length := by rw [digs_step (by omega)]; simp
    rw [if_neg (by omega), if_neg h, tx_digs n (by omega)]
end Go.Proofs.Ytllbbfkgobhcgaa
