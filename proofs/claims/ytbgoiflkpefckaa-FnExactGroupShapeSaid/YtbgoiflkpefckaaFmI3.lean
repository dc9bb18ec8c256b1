/- The program's sum of any two points of a curve modulo a good prime (own work). -/
import Derived.Test.YtbgoiflkpefckaaFmI2
namespace Go.Proofs.Ytbgoiflkpefckaa
open Go.RowKit Go.Joins

theorem rs_neg {p y : Nat} (h : y < p) : rs p (-(y : Int)) = if y = 0 then 0 else p - y := by
  have hp : 0 < p := by omega
  have h1 := rs_cast hp (-(y : Int))
  have h2 := rs_lt hp (-(y : Int))
  by_cases e : y = 0
  · subst e; rw [if_pos rfl]; simp [rs]
  · rw [if_neg e]
    have h3 : (-(y : Int)) % p = (p : Int) - y := by
      rw [show -(y : Int) = ((p : Int) - y) + p * (-1) from by omega, Int.add_mul_emod_self_left, Int.emod_eq_of_lt (by omega) (by omega)]
    omega
theorem FG.odd {a b : Int} {p : Nat} (G : FG a b p) : p % 2 = 1 := by
  have h5 := G.five
  have := G.pr.noDiv 2 (by omega) (by omega); omega
theorem opp_iff {a b : Int} {p x1 y1 x2 y2 : Nat} (G : FG a b p) (h1 : FOn a b p (some (x1, y1))) (h2 : FOn a b p (some (x2, y2))) :
    (x1 = x2 ∧ y1 = rs p (-(y2 : Int))) ↔ (x1 = x2 ∧ (y1 ≠ y2 ∨ y1 = 0)) := by
  have hodd := G.odd
  have a1 := h1.2.1
  have a2 := h2.2.1
  rw [rs_neg h2.2.1]
  constructor
  · rintro ⟨e, f⟩
    refine ⟨e, ?_⟩
    split at f <;> omega
  · rintro ⟨e, f⟩
    refine ⟨e, ?_⟩
    have hsq : y1 * y1 % p = y2 * y2 % p := by rw [h1.2.2, h2.2.2, e]
    rcases G.pr.roots h1.2.1 h2.2.1 hsq with q | q | q
    · split <;> omega
    · split <;> omega
    · split <;> omega
theorem rs_congr {p : Nat} {u v : Int} (h : u % p = v % p) : rs p u = rs p v := by unfold rs; rw [h]
theorem rs_two {p y : Nat} (h5 : 5 ≤ p) (hodd : p % 2 = 1) (h : y < p) (h0 : y ≠ 0) : rs p (2 * (y : Int)) ≠ 0 := by
  intro e
  have h1 := rs_cast (show 0 < p by omega) (2 * (y : Int))
  rw [e] at h1
  have h2 : (p : Int) ∣ 2 * y := Int.dvd_of_emod_eq_zero h1.symm
  obtain ⟨k, hk⟩ := h2
  have hk0 : 0 < k := by
    apply Int.not_le.1; intro hk0
    have := Int.mul_le_mul_of_nonneg_left hk0 (show (0 : Int) ≤ p by omega)
    omega
  have hk2 : k < 2 := by
    apply Int.not_le.1; intro hk2
    have := Int.mul_le_mul_of_nonneg_left hk2 (show (0 : Int) ≤ p by omega)
    omega
  obtain rfl : k = 1 := by omega
  omega
theorem rs_sub {p x y : Nat} (hx : x < p) (hy : y < p) (hne : x ≠ y) : rs p ((y : Int) - x) ≠ 0 := by
  intro e
  have h1 := rs_cast (show 0 < p by omega) ((y : Int) - x)
  rw [e] at h1
  obtain ⟨k, hk⟩ := Int.dvd_of_emod_eq_zero h1.symm
  have hk0 : -1 < k := by
    apply Int.not_le.1; intro hk0
    have := Int.mul_le_mul_of_nonneg_left hk0 (show (0 : Int) ≤ p by omega)
    omega
  have hk2 : k < 1 := by
    apply Int.not_le.1; intro hk2
    have := Int.mul_le_mul_of_nonneg_left hk2 (show (0 : Int) ≤ p by omega)
    omega
  obtain rfl : k = 0 := by omega
  omega
theorem slope_A {a : Int} {p x i : Nat} (hp : 0 < p) : rs p ((3 * (x : Int) * x + rs p a) * i) = rs p ((3 * (x : Int) * x + a) * i) := by
  apply rs_congr
  rw [rs_cast hp]
  rw [show (3 * (x : Int) * x + a % p) * i = (3 * (x : Int) * x + a) * i - p * (a / p * i) from by
    have h1 : a % (p : Int) = a - p * (a / p) := Int.emod_def a p
    rw [h1]; generalize a / (p : Int) = q; grind]
  rw [Int.sub_mul_emod_self_left]
theorem fslope_lt {a : Int} {p x1 y1 x2 y2 : Nat} (hp : 0 < p) : fslope a p x1 y1 x2 y2 < p := by
  unfold fslope; split
  · exact rs_lt hp _
  · exact rs_lt hp _
/-- The value of a point. -/
def PVal (s : FP) : Value := .agg #[.int .i64 (fpx s), .int .i64 (fpy s), .int .i64 (fpz s)]
def GivesF7 (w : World) (s : FP) (e : Ending) (w' : World) : Prop := e = .returned (.agg #[.int .i64 (fpx s), .int .i64 (fpy s), .int .i64 (fpz s)]) ∧ Below w.heap.size w w'
theorem sum_any {a b : Int} {p : Nat} (G : FG a b p) (s t : FP) (w : World) (hs : FOn a b p s) (ht : FOn a b p t) :
    Calls Try.prog 61 #[.agg #[.int .i64 (rs p a : Int), .int .i64 (rs p b : Int), .int .i64 (p : Int)], .agg #[.int .i64 (fpx s), .int .i64 (fpy s), .int .i64 (fpz s)], .agg #[.int .i64 (fpx t), .int .i64 (fpy t), .int .i64 (fpz t)]] w (GivesF7 w (fadd a p s t)) := by
  have h5 := G.five
  have h9 := G.le
  have hp := G.pr
  have hA : rs p a < p := rs_lt (by omega) a
  rcases s with _ | ⟨x1, y1⟩
  · exact sum_left (rs p a) (rs p b) p (fpx t) (fpy t) (fpz t) w
  rcases t with _ | ⟨x2, y2⟩
  · exact sum_right (rs p a) (rs p b) p x1 y1 w
  by_cases ho : x1 = x2 ∧ (y1 ≠ y2 ∨ y1 = 0)
  · rw [fadd_opp ho]
    obtain ⟨e1, e2⟩ := (opp_iff G hs ht).2 ho
    subst e1; subst e2
    exact sum_opp (rs p a) (rs p b) p x1 y2 w h5 h9 ht.2.1
  · rw [fadd_gen ho]
    refine sum_gen (rs p a) (rs p b) p x1 y1 x2 y2 (fslope a p x1 y1 x2 y2) w h5 h9 hs.1 hs.2.1 ht.1 ht.2.1 (fun h => ho ((opp_iff G hs ht).1 h)) (fslope_lt (by omega)) ?_
    intro W
    by_cases hx : x1 = x2
    · subst hx
      have hy : y1 = y2 := by
        by_cases e : y1 = y2
        · exact e
        · exact absurd ⟨rfl, .inl e⟩ ho
      subst hy
      have h0 : y1 ≠ 0 := fun e => ho ⟨rfl, .inr e⟩
      have := slope_eq (rs p a) (rs p b) p x1 y1 W h5 h9 hp hA hs.1 hs.2.1 (rs_two h5 G.odd hs.2.1 h0)
      unfold fslope
      rw [if_pos rfl, ← slope_A (by omega)]
      exact this
    · have := slope_ne (rs p a) (rs p b) p x1 y1 x2 y2 W h5 h9 hp hs.1 hs.2.1 ht.1 ht.2.1 hx (rs_sub hs.1 ht.1 hx)
      unfold fslope
      rw [if_neg hx]
      exact this
end Go.Proofs.Ytbgoiflkpefckaa
