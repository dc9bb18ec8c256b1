/- The bad primes out of the factors (own work). -/
import Derived.Test.YtmknmjkcnlennaaRsFacS
namespace Go.Proofs.Ytmknmjkcnlennaa

/-- The primes of the first j factors from 3 on, behind 2. -/
def bpL (F : List (Nat × Nat)) : Nat → List Int
  | 0 => [2]
  | j + 1 => if 2 < (F[j]?.getD (0, 0)).1 then bpL F j ++ [((F[j]?.getD (0, 0)).1 : Int)] else bpL F j
theorem bpL_yes {F : List (Nat × Nat)} {j q : Nat} (e : (F[j]?.getD (0, 0)).1 = q) (h : 2 < q) : bpL F j ++ [(q : Int)] = bpL F (j + 1) := by
  subst e; rw [bpL, if_pos h]
theorem bpL_no {F : List (Nat × Nat)} {j q : Nat} (e : (F[j]?.getD (0, 0)).1 = q) (h : ¬ 2 < q) : bpL F j = bpL F (j + 1) := by
  subst e; rw [bpL, if_neg h]
theorem bpL_len (F : List (Nat × Nat)) : ∀ j, 1 ≤ (bpL F j).length ∧ (bpL F j).length ≤ j + 1
  | 0 => ⟨Nat.le_refl 1, Nat.le_refl 1⟩
  | j + 1 => by
    have := bpL_len F j
    rw [bpL]
    split
    · rw [List.length_append]; show 1 ≤ _ + 1 ∧ _ + 1 ≤ _; omega
    · omega
/-- Factors are strictly increasing, from 2 on. -/
theorem Fac.from : ∀ (F : List (Nat × Nat)) (n m : Nat), Fac F n → NoDiv m n → 2 ≤ m → 1 ≤ n → ∀ j, j < F.length → m ≤ (F[j]?.getD (0, 0)).1
  | [], _, _, _, _, _, _, j, hj => by simp at hj
  | (q, k) :: F, n, m, h, hn, hm, h1, j, hj => by
    obtain ⟨hl, hk, r, er, hr, hr1, hF⟩ := h
    have hq : m ≤ q := by
      apply Nat.le_of_not_lt; intro hlt
      exact hn q hl.1 hlt hl.2.1
    rcases j with _ | j
    · exact hq
    · have := Fac.from F r (q + 1) hF (Fac.noDiv hl er hr) (by omega) hr1 j (by simpa using hj)
      simp only [List.getElem?_cons_succ]
      omega
theorem Fac.lt : ∀ (F : List (Nat × Nat)) (n : Nat), Fac F n → 1 ≤ n → ∀ i j, i < j → j < F.length → (F[i]?.getD (0, 0)).1 < (F[j]?.getD (0, 0)).1
  | [], _, _, _, _, j, _, hj => by simp at hj
  | (q, k) :: F, n, h, h1, i, j, hij, hj => by
    obtain ⟨hl, hk, r, er, hr, hr1, hF⟩ := h
    obtain ⟨j, rfl⟩ : ∃ j', j = j' + 1 := ⟨j - 1, by omega⟩
    have hj' : j < F.length := by simpa using hj
    rcases i with _ | i
    · have := Fac.from F r (q + 1) hF (Fac.noDiv hl er hr) (by have := hl.1; omega) hr1 j hj'
      simp only [List.getElem?_cons_succ, List.getElem?_cons_zero, Option.getD_some]
      omega
    · simp only [List.getElem?_cons_succ]
      exact Fac.lt F r hF hr1 i j (by omega) hj'
theorem Fac.ge {F : List (Nat × Nat)} {n : Nat} (h : Fac F n) (h1 : 1 ≤ n) {j : Nat} (hj : j < F.length) : 2 ≤ (F[j]?.getD (0, 0)).1 := Fac.from F n 2 h (NoDiv.two n) (by omega) h1 j hj
/-- All that stands there is less than what comes next, if that is greater than 2. -/
theorem bpL_lt {F : List (Nat × Nat)} {n : Nat} (h : Fac F n) (h1 : 1 ≤ n) {q : Nat} (hq : 2 < q) : ∀ j, j < F.length → (∀ i, i < j → (F[i]?.getD (0, 0)).1 < q) → ∀ x ∈ bpL F j, x < (q : Int)
  | 0, _, _, x, hx => by simp [bpL] at hx; omega
  | j + 1, hj, hi, x, hx => by
    rw [bpL] at hx
    have ih := bpL_lt h h1 hq j (by omega) (fun i h => hi i (by omega))
    split at hx
    · rcases List.mem_append.1 hx with hx | hx
      · exact ih x hx
      · have := hi j (by omega)
        simp at hx
        omega
    · exact ih x hx
theorem bpL_at {F : List (Nat × Nat)} {n : Nat} (h : Fac F n) (h1 : 1 ≤ n) {j q : Nat} (e : (F[j]?.getD (0, 0)).1 = q) (hj : j < F.length) (hq : 2 < q) (k : Nat) (hk : k < (bpL F j).length) : (bpL F j)[k]?.getD 0 < (q : Int) := by
  rw [List.getElem?_eq_getElem hk]
  exact bpL_lt h h1 hq j hj (fun i hi => by rw [← e]; exact Fac.lt F n h h1 i j hi hj) _ (List.getElem_mem hk)
/-- A first factor 2: only the first one. -/
theorem bpL_first {F : List (Nat × Nat)} {n : Nat} (h : Fac F n) (h1 : 1 ≤ n) {j : Nat} (hj : j < F.length) (hq : ¬ 2 < (F[j]?.getD (0, 0)).1) : (F[j]?.getD (0, 0)).1 = 2 ∧ bpL F j = [2] := by
  have h2 := Fac.ge h h1 hj
  refine ⟨by omega, ?_⟩
  rcases j with _ | j
  · rfl
  · have h3 := Fac.lt F n h h1 j (j + 1) (by omega) hj
    have h4 := Fac.ge h h1 (show j < F.length by omega)
    omega
end Go.Proofs.Ytmknmjkcnlennaa
