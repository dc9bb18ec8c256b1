/- The text of a whole: the digits of its limbs, the last one first, the others with four digits each. -/
import Derived.Test.YtllbbfkgobhcgaaWtNum
namespace Go.Proofs.Ytllbbfkgobhcgaa
open Go.RowKit Go.Joins

/-- j zeros. -/
def zeros (j : Nat) : ByteArray := ⟨(List.replicate j (48 : UInt8)).toArray⟩
theorem zeros_size (j : Nat) : (zeros j).size = j := by show (List.replicate j (48 : UInt8)).toArray.size = j; simp
theorem zeros_zero (b : ByteArray) : zeros 0 ++ b = b := by apply ByteArray.ext; simp [zeros]
theorem zeros_more (j : Nat) (b : ByteArray) : (⟨#[48]⟩ : ByteArray) ++ (zeros j ++ b) = zeros (j + 1) ++ b := by
  apply ByteArray.ext
  apply Array.toList_inj.1
  simp [zeros, List.replicate_succ]
/-- A limb with four digits. -/
def pad4 (x : Nat) : ByteArray := zeros (4 - (numB x).size) ++ numB x
theorem nd_le : ∀ (k u : Nat), 1 ≤ k → u < 10 ^ k → Lib.nDigits u ≤ k
  | 0, _, h, _ => by omega
  | k + 1, u, _, h => by
    by_cases h1 : u < 10
    · rw [Lib.nDigits_small h1]; omega
    · rw [Lib.nDigits, dif_neg h1]
      have hk : 1 ≤ k := by
        rcases Nat.eq_zero_or_pos k with e | e
        · subst e; omega
        · exact e
      have := nd_le k (u / 10) hk (by rw [Nat.pow_succ] at h; omega)
      omega
theorem numB_len (n : Nat) : (numB n).size = (Lib.decDigits n).length := by show (Lib.decDigits n).toArray.size = _; simp
theorem numB_pos (n : Nat) : 1 ≤ (numB n).size := by rw [numB_len, Lib.decDigits_length]; exact Lib.nDigits_pos n
theorem numB_four (n : Nat) (h : n ≤ 9999) : (numB n).size ≤ 4 := by rw [numB_len, Lib.decDigits_length]; exact nd_le 4 n (by omega) (by omega)
theorem pad4_size (x : Nat) (h : x ≤ 9999) : (pad4 x).size = 4 := by
  have := numB_four x h
  unfold pad4
  rw [ByteArray.size_append, zeros_size]; omega

/-- The digits of the last limb and of the k ones before it. -/
def tx (xs : List Int) : Nat → ByteArray
  | 0 => numB (xs[xs.length - 1]?.getD 0).toNat
  | k + 1 => tx xs k ++ pad4 (xs[xs.length - 2 - k]?.getD 0).toNat
theorem tx_size (xs : List Int) (h : ∀ k : Nat, k < xs.length → 0 ≤ xs[k]?.getD 0 ∧ xs[k]?.getD 0 ≤ 9999) : ∀ k : Nat, k < xs.length → (tx xs k).size ≤ 4 + 4 * k
  | 0, hk => by
    have := h (xs.length - 1) (by omega)
    exact numB_four _ (by omega)
  | k + 1, hk => by
    have h1 := tx_size xs h k (by omega)
    have h2 := h (xs.length - 2 - k) (by omega)
    rw [tx, ByteArray.size_append, pad4_size _ (by omega)]
    omega
theorem tx_pos (xs : List Int) : ∀ k : Nat, 1 ≤ (tx xs k).size
  | 0 => numB_pos _
  | k + 1 => by have := tx_pos xs k; rw [tx, ByteArray.size_append]; omega
def signB (neg : Bool) : ByteArray := if neg then ⟨#[45]⟩ else ⟨#[]⟩
/-- The text of a whole. -/
def txW (neg : Bool) (xs : List Int) : ByteArray := if xs.length = 0 then ⟨#[48]⟩ else signB neg ++ tx xs (xs.length - 1)
theorem empty_app (b : ByteArray) : (⟨#[]⟩ : ByteArray) ++ b = b := by apply ByteArray.ext; simp
end Go.Proofs.Ytllbbfkgobhcgaa
