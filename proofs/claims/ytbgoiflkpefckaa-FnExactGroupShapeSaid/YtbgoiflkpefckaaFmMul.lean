/- Multiples and orders of points modulo a prime (own work). -/
import Derived.Test.YtbgoiflkpefckaaFmAdd
namespace Go.Proofs.Ytbgoiflkpefckaa

def fmul (a : Int) (p : Nat) : Nat → FP → FP
  | 0, _ => none
  | n + 1, s => fadd a p (fmul a p n s) s
theorem fadd_zero (a : Int) (p : Nat) (s : FP) : fadd a p s none = s := by rcases s with _ | s <;> rfl
theorem zero_fadd (a : Int) (p : Nat) (s : FP) : fadd a p none s = s := rfl
theorem fmul_none (a : Int) (p : Nat) : ∀ n, fmul a p n none = none
  | 0 => rfl
  | n + 1 => by rw [fmul, fmul_none a p n]; rfl
theorem FG.ne {a b : Int} {p : Nat} (G : FG a b p) : NeZero p := ⟨by have := G.five; omega⟩
section
variable {a b : Int} {p : Nat} (G : FG a b p)
include G
theorem FG.add_on {s t : FP} (hs : FOn a b p s) (ht : FOn a b p t) : FOn a b p (fadd a p s t) := by
  have := G.ne; exact fadd_on G hs ht
theorem FG.assoc {s t u : FP} (hs : FOn a b p s) (ht : FOn a b p t) (hu : FOn a b p u) : fadd a p (fadd a p s t) u = fadd a p s (fadd a p t u) := by
  have := G.ne; exact fadd_assoc G hs ht hu
theorem FG.comm {s t : FP} (hs : FOn a b p s) (ht : FOn a b p t) : fadd a p s t = fadd a p t s := by
  have := G.ne; exact fadd_comm G hs ht
theorem FG.can {s t u : FP} (hs : FOn a b p s) (ht : FOn a b p t) (hu : FOn a b p u) (e : fadd a p s t = fadd a p s u) : t = u := by
  have := G.ne; exact fadd_can G hs ht hu e
theorem FG.neg_on {s : FP} (hs : FOn a b p s) : FOn a b p (fneg p s) := by
  have := G.ne; exact fneg_on hs
theorem FG.mul_on {s : FP} (hs : FOn a b p s) : ∀ n, FOn a b p (fmul a p n s)
  | 0 => trivial
  | n + 1 => G.add_on (FG.mul_on hs n) hs
theorem FG.mul_add {s : FP} (hs : FOn a b p s) (m : Nat) : ∀ n, fmul a p (m + n) s = fadd a p (fmul a p m s) (fmul a p n s)
  | 0 => (fadd_zero a p _).symm
  | n + 1 => by
    rw [← Nat.add_assoc, fmul, FG.mul_add hs m n, fmul, G.assoc (G.mul_on hs m) (G.mul_on hs n) hs]
theorem FG.mul_mul {s : FP} (hs : FOn a b p s) (m : Nat) : ∀ n, fmul a p n (fmul a p m s) = fmul a p (m * n) s
  | 0 => rfl
  | n + 1 => by rw [fmul, FG.mul_mul hs m n, Nat.mul_add, Nat.mul_one, G.mul_add hs]
theorem FG.dbl {s : FP} (hs : FOn a b p s) (n : Nat) : fmul a p n (fadd a p s s) = fmul a p (2 * n) s := G.mul_mul hs 2 n
/-- One round of doubling. -/
theorem FG.even {o x : FP} (hx : FOn a b p x) {m : Nat} (hm : m % 2 = 0) : fadd a p o (fmul a p (m / 2) (fadd a p x x)) = fadd a p o (fmul a p m x) := by
  rw [G.dbl hx, show 2 * (m / 2) = m from by omega]
theorem FG.odd_step {o x : FP} (ho : FOn a b p o) (hx : FOn a b p x) {m : Nat} (hm : m % 2 = 1) : fadd a p (fadd a p o x) (fmul a p (m / 2) (fadd a p x x)) = fadd a p o (fmul a p m x) := by
  rw [G.dbl hx, G.assoc ho hx (G.mul_on hx _)]
  congr 1
  have := (G.mul_add hx 1 (2 * (m / 2))).symm
  rw [show 1 + 2 * (m / 2) = m from by omega] at this
  exact this
end
/-- n is the order of s. -/
def FOrd (a : Int) (p : Nat) (s : FP) (n : Nat) : Prop := 1 ≤ n ∧ fmul a p n s = none ∧ ∀ k, 1 ≤ k → k < n → fmul a p k s ≠ none
def code (p : Nat) : FP → Nat
  | none => p * p
  | some (x, y) => x * p + y
theorem code_lt {a b : Int} {p : Nat} {s : FP} (h : FOn a b p s) : code p s < p * p + 1 := by
  rcases s with _ | ⟨x, y⟩
  · simp [code]
  · have h1 : x * p + p ≤ p * p := by
      have := Nat.mul_le_mul_right p (show x + 1 ≤ p from h.1)
      rw [Nat.add_mul, Nat.one_mul] at this; exact this
    have := h.2.1
    simp only [code]; omega
theorem code_inj {a b : Int} {p : Nat} {s t : FP} (h : FOn a b p s) (k : FOn a b p t) (e : code p s = code p t) : s = t := by
  have bd : ∀ x y : Nat, FOn a b p (some (x, y)) → x * p + y < p * p := fun x y h => by
    have := Nat.mul_le_mul_right p (show x + 1 ≤ p from h.1)
    rw [Nat.add_mul, Nat.one_mul] at this
    have := h.2.1
    omega
  rcases s with _ | ⟨x, y⟩ <;> rcases t with _ | ⟨u, v⟩
  · rfl
  · have := bd u v k; simp only [code] at e; omega
  · have := bd x y h; simp only [code] at e; omega
  · have hy := h.2.1
    have hv := k.2.1
    simp only [code] at e
    have e1 : (x * p + y) / p = x := by rw [Nat.mul_comm, Nat.mul_add_div (by omega), Nat.div_eq_of_lt hy]; rfl
    have e2 : (u * p + v) / p = u := by rw [Nat.mul_comm, Nat.mul_add_div (by omega), Nat.div_eq_of_lt hv]; rfl
    have e3 : x = u := by rw [← e1, ← e2, e]
    subst e3
    have : y = v := by omega
    rw [this]
theorem FOrd.le {a : Int} {p : Nat} {s : FP} {n m : Nat} (h : FOrd a p s n) (hm : 1 ≤ m) (e : fmul a p m s = none) : n ≤ m := by
  apply Nat.le_of_not_lt; intro hlt; exact h.2.2 m hm hlt e
theorem FOrd.uniq {a : Int} {p : Nat} {s : FP} {n m : Nat} (h : FOrd a p s n) (k : FOrd a p s m) : n = m :=
  Nat.le_antisymm (FOrd.le h k.1 k.2.1) (FOrd.le k h.1 h.2.1)
section
variable {a b : Int} {p : Nat} (G : FG a b p)
include G
theorem FG.order {s : FP} (hs : FOn a b p s) : ∃ n, FOrd a p s n ∧ n ≤ p * p + 1 := by
  obtain ⟨i, j, hij, hj, e⟩ := two_alike (p * p + 1) (fun k => code p (fmul a p k s)) (fun k _ => code_lt (G.mul_on hs k))
  have e' : fmul a p i s = fmul a p j s := code_inj (G.mul_on hs i) (G.mul_on hs j) e
  have h1 : fmul a p (j - i) s = none := by
    have h2 := G.mul_add hs i (j - i)
    rw [show i + (j - i) = j from by omega, ← e'] at h2
    exact G.can (G.mul_on hs i) (G.mul_on hs (j - i)) (u := none) trivial (h2.symm.trans (fadd_zero a p _).symm)
  obtain ⟨m, h2, h3, h4⟩ := least_of (fun n => 1 ≤ n ∧ fmul a p n s = none) (j - i) ⟨by omega, h1⟩
  exact ⟨m, ⟨h3.1, h3.2, fun k k1 k2 k3 => h4 k k2 ⟨k1, k3⟩⟩, by omega⟩
/-- A multiple has no greater order. -/
theorem FOrd.mult {s : FP} {n m k : Nat} (hs : FOn a b p s) (h : FOrd a p s n) (hm : FOrd a p (fmul a p k s) m) : m ≤ n := by
  refine FOrd.le hm h.1 ?_
  rw [G.mul_mul hs, Nat.mul_comm, ← G.mul_mul hs, h.2.1, fmul_none]
end
/-- The multiples for 1, .., k. -/
def mulL (a : Int) (p : Nat) (s : FP) : Nat → List FP
  | 0 => []
  | k + 1 => mulL a p s k ++ [fmul a p (k + 1) s]
theorem mulL_len (a : Int) (p : Nat) (s : FP) : ∀ k, (mulL a p s k).length = k
  | 0 => rfl
  | k + 1 => by rw [mulL, List.length_append, mulL_len a p s k]; rfl
theorem mulL_mem {a : Int} {p : Nat} {s t : FP} : ∀ {k : Nat}, t ∈ mulL a p s k → ∃ j, 1 ≤ j ∧ j ≤ k ∧ t = fmul a p j s
  | 0, h => by simp [mulL] at h
  | k + 1, h => by
    rw [mulL, List.mem_append] at h
    rcases h with h | h
    · obtain ⟨j, h1, h2, h3⟩ := mulL_mem h
      exact ⟨j, h1, by omega, h3⟩
    · exact ⟨k + 1, by omega, by omega, by simpa using h⟩
end Go.Proofs.Ytbgoiflkpefckaa
