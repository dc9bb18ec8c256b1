/- The limbs of a decimal text, filled from the first digit on: limb q stands at its block's digits so far, those above it hold what comes before the block, those below are 0. -/
import Derived.Test.YtllbbfkgobhcgaaPwMath
namespace Go.Proofs.Ytllbbfkgobhcgaa
open Go.RowKit Go.Joins

def St (t : ByteArray) (k q : Nat) (L : List Int) : Prop :=
  L.length = (t.size + 3) / 4 ∧ q < L.length ∧ t.size - 4 * (q + 1) ≤ k ∧ k + 4 * q ≤ t.size ∧
    L[q]?.getD 0 = (sg t (t.size - 4 * (q + 1)) (k - (t.size - 4 * (q + 1))) : Int) ∧ val (L.drop (q + 1)) = (valTo t (t.size - 4 * (q + 1)) : Int) ∧ (∀ j, j < q → L[j]?.getD 0 = 0) ∧ Rng 0 9999 L

theorem St.start {t : ByteArray} (h : 1 ≤ t.size) : St t 0 ((t.size + 3) / 4 - 1) (List.replicate ((t.size + 3) / 4) 0) := by
  have e : t.size - 4 * ((t.size + 3) / 4 - 1 + 1) = 0 := by omega
  refine ⟨by simp, by simp; omega, by omega, by omega, ?_, ?_, fun j hj => ?_, fun j hj => ?_⟩
  · rw [e, List.getElem?_replicate]; split <;> rfl
  · rw [e, List.drop_eq_nil_of_le (by simp; omega)]; rfl
  · rw [List.getElem?_replicate]; split <;> rfl
  · rw [List.getElem?_replicate]; split <;> simp

/-- What stands in the limbs from q on when the block of limb q is full. -/
theorem St.full {t : ByteArray} {k q : Nat} {L : List Int} (h : St t k q L) (hk : k + 4 * q = t.size) : val (L.drop q) = (valTo t k : Int) := by
  obtain ⟨h1, h2, h3, h4, h5, h6, -, -⟩ := h
  rw [val_drop, h5, h6]
  by_cases hp : 4 * (q + 1) ≤ t.size
  · obtain ⟨p, hpe⟩ : ∃ p, p = t.size - 4 * (q + 1) := ⟨_, rfl⟩
    rw [← hpe, show k - p = 4 from by omega, show k = p + 4 from by omega, sg_four]
    omega
  · rw [show t.size - 4 * (q + 1) = 0 from by omega, Nat.sub_zero, sg_zero t k]
    simp [valTo]
theorem St.done {t : ByteArray} {q : Nat} {L : List Int} (h : St t t.size q L) : val L = (valTo t t.size : Int) := by
  have h4 := h.2.2.2.1
  obtain rfl : q = 0 := by omega
  have := h.full (by omega)
  rwa [List.drop_zero] at this

theorem St.at' {t : ByteArray} {k q : Nat} {L : List Int} (h : St t k q L) (hk : k < t.size) (hd : ∀ j, j < t.size → dig t j) (p : Nat) (hp : p = (t.size - 1 - k) / 4) :
    p < L.length ∧ 0 ≤ L[p]?.getD 0 ∧ 10 * L[p]?.getD 0 + (dg t k : Int) ≤ 9999 ∧ St t (k + 1) p (L.set p (10 * L[p]?.getD 0 + (dg t k : Int))) := by
  have hfull := fun e => h.full e
  obtain ⟨h1, h2, h3, h4, h5, h6, h7, h8⟩ := h
  by_cases hq : k + 4 * q < t.size
  · obtain rfl : p = q := by omega
    obtain ⟨b, hb⟩ : ∃ b, b = t.size - 4 * (p + 1) := ⟨_, rfl⟩
    have e1 : (10 * L[p]?.getD 0 + (dg t k : Int)) = (sg t b (k + 1 - b) : Int) := by
      rw [h5, ← hb, show k + 1 - b = (k - b) + 1 from by omega, sg, show b + (k - b) = k from by omega]; push_cast; rfl
    have e2 := sg_le t b (k + 1 - b) (by omega) (fun j hj => hd _ (by omega))
    have e3 : 0 ≤ L[p]?.getD 0 := by rw [h5]; omega
    refine ⟨h2, e3, by rw [e1]; omega, by rw [List.length_set]; exact h1, by rw [List.length_set]; exact h2, by omega, by omega, ?_, ?_, fun j hj => ?_, fun j hj => ?_⟩
    · rw [List.getElem?_set_self h2, Option.getD_some, e1, hb]
    · rw [List.drop_set_of_lt (by omega)]; exact h6
    · rw [List.getElem?_set_ne (by omega)]; exact h7 j hj
    · rw [List.length_set] at hj
      by_cases ej : p = j
      · subst ej; rw [List.getElem?_set_self h2, Option.getD_some, e1]; omega
      · rw [List.getElem?_set_ne ej]; exact h8 j hj
  · have hq2 : k + 4 * q = t.size := by omega
    have hv := hfull hq2
    have hp1 : p + 1 = q := by omega
    have hpl : p < L.length := by omega
    have e0 := h7 p (by omega)
    have e9 := dg_le (hd k hk)
    have eb : t.size - 4 * (p + 1) = k := by omega
    refine ⟨hpl, by rw [e0]; exact Int.le_refl _, by rw [e0]; omega, by rw [List.length_set]; exact h1, by rw [List.length_set]; exact hpl, by omega, by omega, ?_, ?_, fun j hj => ?_, fun j hj => ?_⟩
    · rw [List.getElem?_set_self hpl, Option.getD_some, e0, eb, show k + 1 - k = 0 + 1 from by omega, sg, sg, Nat.add_zero]; simp
    · rw [List.drop_set_of_lt (by omega), eb, hp1]; exact hv
    · rw [List.getElem?_set_ne (by omega)]; exact h7 j (by omega)
    · rw [List.length_set] at hj
      by_cases ej : p = j
      · subst ej; rw [List.getElem?_set_self hpl, Option.getD_some, e0]; omega
      · rw [List.getElem?_set_ne ej]; exact h8 j hj
end Go.Proofs.Ytllbbfkgobhcgaa
