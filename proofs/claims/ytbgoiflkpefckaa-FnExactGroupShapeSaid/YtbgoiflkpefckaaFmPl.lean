/- The list of all points modulo a prime (own work). -/
import Derived.Test.YtbgoiflkpefckaaFmMul
namespace Go.Proofs.Ytbgoiflkpefckaa

/-- The points over x with y below n. -/
def prs (a b : Int) (p x : Nat) : Nat → List FP
  | 0 => []
  | n + 1 => prs a b p x n ++ (if n * n % p = fval a b p x then [some (x, n)] else [])
/-- All points with x below k. -/
def plist (a b : Int) (p : Nat) : Nat → List FP
  | 0 => [none]
  | k + 1 => plist a b p k ++ prs a b p k p
theorem prs_yes {a b : Int} {p x n : Nat} (h : n * n % p = fval a b p x) : prs a b p x (n + 1) = prs a b p x n ++ [some (x, n)] := by rw [prs, if_pos h]
theorem prs_no {a b : Int} {p x n : Nat} (h : ¬ n * n % p = fval a b p x) : prs a b p x (n + 1) = prs a b p x n := by rw [prs, if_neg h, List.append_nil]
theorem prs_len (a b : Int) (p x : Nat) : ∀ n, (prs a b p x n).length ≤ n
  | 0 => by simp [prs]
  | n + 1 => by rw [prs, List.length_append]; have := prs_len a b p x n; split <;> simp <;> omega
theorem plist_len (a b : Int) (p : Nat) : ∀ k, (plist a b p k).length ≤ k * p + 1 ∧ 1 ≤ (plist a b p k).length
  | 0 => by simp [plist]
  | k + 1 => by
    rw [plist, List.length_append, Nat.add_mul, Nat.one_mul]
    have := plist_len a b p k
    have := prs_len a b p k p
    omega
theorem prs_none {a b : Int} {p x : Nat} : ∀ n, (∀ y, y < n → ¬ y * y % p = fval a b p x) → prs a b p x n = []
  | 0, _ => rfl
  | n + 1, h => by rw [prs_no (h n (by omega)), prs_none n (fun y hy => h y (by omega))]
theorem prs_one {a b : Int} {p x y0 : Nat} (h0 : y0 * y0 % p = fval a b p x) : ∀ n, y0 < n → (∀ y, y < n → y ≠ y0 → ¬ y * y % p = fval a b p x) → prs a b p x n = [some (x, y0)]
  | 0, h, _ => by omega
  | n + 1, h, hn => by
    by_cases e : y0 = n
    · subst e
      rw [prs_yes h0, prs_none y0 (fun y hy => hn y (by omega) (by omega))]; rfl
    · rw [prs_no (hn n (by omega) (by omega)), prs_one h0 n (by omega) (fun y hy => hn y (by omega))]
theorem prs_two {a b : Int} {p x y0 y1 : Nat} (h0 : y0 * y0 % p = fval a b p x) (h1 : y1 * y1 % p = fval a b p x) (h01 : y0 < y1) : ∀ n, y1 < n → (∀ y, y < n → y ≠ y0 → y ≠ y1 → ¬ y * y % p = fval a b p x) → prs a b p x n = [some (x, y0), some (x, y1)]
  | 0, h, _ => by omega
  | n + 1, h, hn => by
    by_cases e : y1 = n
    · subst e
      rw [prs_yes h1, prs_one h0 y1 h01 (fun y hy hne => hn y (by omega) hne (by omega))]; rfl
    · rw [prs_no (hn n (by omega) (by omega) (by omega)), prs_two h0 h1 h01 n (by omega) (fun y hy => hn y (by omega))]
/-- No root. -/
theorem prs_off {a b : Int} {p x : Nat} (h : ∀ y, y < p → ¬ y * y % p = fval a b p x) : prs a b p x p = [] := prs_none p h
/-- The least root is 0, or there is another one. -/
theorem prs_on {a b : Int} {p x y : Nat} (G : FG a b p) (hy : y < p) (h : y * y % p = fval a b p x) (hl : ∀ z, z < y → ¬ z * z % p = fval a b p x) :
    prs a b p x p = some (x, y) :: (if y = 0 then [] else [some (x, p - y)]) ∧ (y ≠ 0 → y ≠ p - y) := by
  have h5 := G.five
  have hodd : p % 2 = 1 := by
    have := G.pr.noDiv 2 (by omega) (by omega); omega
  by_cases h0 : y = 0
  · subst h0
    refine ⟨?_, fun h => absurd rfl h⟩
    rw [if_pos rfl]
    refine prs_one h p hy fun z hz hne e => ?_
    rcases G.pr.roots hz hy (e.trans h.symm) with q | q | q <;> omega
  · have hz := neg_sq (p := p) (y := y) (by omega)
    rw [h] at hz
    have hlt : y < p - y := by
      apply Nat.lt_of_not_le; intro hle
      by_cases e : p - y = y
      · omega
      · exact hl (p - y) (by omega) hz
    rw [if_neg h0]
    refine ⟨prs_two h hz hlt p (by omega) fun z hz hne hne2 e => ?_, fun _ => by omega⟩
    rcases G.pr.roots hz hy (e.trans h.symm) with q | q | q <;> omega
theorem prs_onC {a b : Int} {p x : Nat} (hx : x < p) : ∀ n, n ≤ p → ∀ s, s ∈ prs a b p x n → FOn a b p s
  | 0, _, s, h => by simp [prs] at h
  | n + 1, hn, s, h => by
    by_cases e : n * n % p = fval a b p x
    · rw [prs_yes e, List.mem_append] at h
      rcases h with h | h
      · exact prs_onC hx n (by omega) s h
      · have : s = some (x, n) := by simpa using h
        subst this; exact ⟨hx, by omega, e⟩
    · rw [prs_no e] at h; exact prs_onC hx n (by omega) s h
theorem plist_on {a b : Int} {p : Nat} : ∀ k, k ≤ p → ∀ s, s ∈ plist a b p k → FOn a b p s
  | 0, _, s, h => by
    have : s = none := by simpa [plist] using h
    subst this; trivial
  | k + 1, hk, s, h => by
    rw [plist, List.mem_append] at h
    rcases h with h | h
    · exact plist_on k (by omega) s h
    · exact prs_onC (by omega) p (Nat.le_refl _) s h
theorem plist_at {a b : Int} {p k : Nat} (h : k < (plist a b p p).length) : FOn a b p ((plist a b p p)[k]?.getD none) := by
  rw [List.getElem?_eq_getElem h]
  exact plist_on p (Nat.le_refl _) _ (List.getElem_mem h)
end Go.Proofs.Ytbgoiflkpefckaa
