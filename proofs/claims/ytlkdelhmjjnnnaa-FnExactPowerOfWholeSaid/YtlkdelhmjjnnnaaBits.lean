/- Numbers of bits; the library's bits.Len (laid by the kit's command for this program). -/
import Derived.Shelf.Small.Bits
import Derived.Test.YtlkdelhmjjnnnaaDivW
import Derived.Test.YtlkdelhmjjnnnaaLawBitLength
import Derived.Deep.LoopGhost
namespace Go.Proofs
open Go.Shelf
def Try.lays125_ren : Go.Shelf.Ren := ⟨fun | 125 => 63 | 128 => 81 | 129 => 82 | n => n, fun | 46 => 65 | 3 => 3 | 51 => 76 | 53 => 78 | 4 => 4 | 5 => 5 | 9 => 9 | n => n, fun | n => n⟩
theorem Try.lays125 : Go.Proofs.Lays.n125 Try.prog Try.lays125_ren := {
  mixed := by kernel_rfl
  f125 := Try.func63.trans (congrArg some (by kernel_rfl))
  f128 := Try.func81.trans (congrArg some (by kernel_rfl))
  f129 := Try.func82.trans (congrArg some (by kernel_rfl))
  t3 := Try.underlying3
  a3 := Try.isAgg3
  z3 := Try.sizeOf3
  v3 := Try.zeroValue3
  t4 := Try.underlying4
  a4 := Try.isAgg4
  z4 := Try.sizeOf4
  v4 := Try.zeroValue4
  t5 := Try.underlying5
  a5 := Try.isAgg5
  z5 := Try.sizeOf5
  v5 := Try.zeroValue5
  t9 := Try.underlying9
  a9 := Try.isAgg9
  z9 := Try.sizeOf9
  v9 := Try.zeroValue9
  t46 := Try.underlying65
  a46 := Try.isAgg65
  z46 := Try.sizeOf65
  v46 := Try.zeroValue65
  t51 := Try.underlying76
  a51 := Try.isAgg76
  z51 := Try.sizeOf76
  v51 := Try.zeroValue76
  t53 := Try.underlying78
  a53 := Try.isAgg78
  z53 := Try.sizeOf78
  v53 := Try.zeroValue78 }
/-- bits.Len: "Len returns the minimum number of bits required to represent x; the result is 0 for x == 0.": IT RETURNS 'Lib.bitLen x'; the world is as it was. (A uint has 64 bits in the model.) ITS CALLEE bits.Len64 IS MET BY ITS OWN CONTRACT OFF THE SHELF (lay that first). (LAID: no walk: one application.) -/
theorem Try.bits_Len (x : Int) (w : World) (h0 : 0 ≤ x) (h1 : x ≤ 18446744073709551615) :
    Calls Try.prog 63 #[.int .u64 x] w fun e w' => e = .returned (.int .i64 (Lib.bitLen x.toNat)) ∧ w' = w := Any.bits_Len Try.lays125 x w h0 h1
namespace Ytlkdelhmjjnnnaa
open Go.RowKit Go.Joins

def blog (n : Nat) : Nat := if n = 0 then 0 else n.log2 + 1
theorem blog_zero : blog 0 = 0 := rfl
theorem blog_half {n : Nat} (h : n ≠ 0) : blog n = 1 + blog (n / 2) := by
  unfold blog
  rw [if_neg h]
  by_cases h2 : n / 2 = 0
  · rw [if_pos h2]
    have : n = 1 := by omega
    subst this
    rw [Nat.log2_def]
    simp
  · rw [if_neg h2, Nat.log2_def, if_pos (by omega)]
    omega
theorem blog_shift : ∀ (k n : Nat), 2 ^ k ≤ n → blog n = k + blog (n / 2 ^ k)
  | 0, n, _ => by simp
  | k + 1, n, h => by
    have hp : 0 < 2 ^ k := Nat.two_pow_pos k
    have h2 : 2 ^ k ≤ n / 2 := by rw [Nat.pow_succ] at h; omega
    rw [blog_half (n := n) (by rw [Nat.pow_succ] at h; omega), blog_shift k (n / 2) h2, Nat.div_div_eq_div_mul, Nat.pow_succ, Nat.mul_comm 2]
    omega
theorem blog_le : ∀ {k n : Nat}, n < 2 ^ k → blog n ≤ k
  | 0, n, h => by have : n = 0 := by simpa using h
                  subst this; exact Nat.le_refl _
  | k + 1, n, h => by
    by_cases h0 : n = 0
    · subst h0; exact Nat.zero_le _
    · rw [blog_half h0]
      have := blog_le (k := k) (n := n / 2) (by rw [Nat.pow_succ] at h; omega)
      omega
theorem bitLenAux_blog : ∀ (f x : Nat), x < 2 ^ f → Lib.bitLenAux f x = blog x
  | 0, x, h => by have : x = 0 := by simpa using h
                  subst this; rfl
  | f + 1, x, h => by
    unfold Lib.bitLenAux
    by_cases h0 : x = 0
    · subst h0; rfl
    · rw [if_neg h0, blog_half h0, bitLenAux_blog f (x / 2) (by rw [Nat.pow_succ] at h; omega)]
theorem bitsLen_any (r : Nat) (w : World) (h : r < 549755813888) :
    Calls Try.prog 63 #[.int .u64 (r : Int)] w fun e w' => e = .returned (.int .i64 (blog r : Nat)) ∧ w = w' := by
  refine (Try.bits_Len (r : Int) w (by omega) (by omega)).mono ?_
  rintro e w' ⟨rfl, rfl⟩
  refine ⟨?_, rfl⟩
  rw [Int.toNat_natCast]
  unfold Lib.bitLen
  rw [bitLenAux_blog 64 r (by omega)]
theorem blog_val {xs : List Int} (h : Rng 0 9999 xs) {K : Nat} (hl : 14 * xs.length ≤ K) : blog (val xs).toNat ≤ K := by
  have h1 := val_lt h
  refine blog_le (Nat.lt_of_lt_of_le h1 ?_)
  refine Nat.le_trans (Nat.pow_le_pow_left (by decide : 10000 ≤ 2 ^ 14) _) ?_
  rw [← Nat.pow_mul]
  exact Nat.pow_le_pow_right (by decide) hl
end Ytlkdelhmjjnnnaa
end Go.Proofs
