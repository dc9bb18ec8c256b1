/- Multiples of a point, as one function; stores into a box of three cells (own work). -/
import Derived.Test.YtabcnkobojkdhaaPtSum
import Derived.Test.YtabcnkobojkdhaaPtBox
namespace Go.Proofs.Ytabcnkobojkdhaa
open Go.RowKit Go.Joins

theorem Box.off {w : World} {g g' i : Nat} {t : TypeId} {cs : Array Value} (h : Box w g t cs) (hne : g ≠ g') (u : Value) : Box (w.setCell ⟨g', i, none⟩ u) g t cs := (heap_setCell_other w ⟨g', i, none⟩ g u hne).trans h
theorem Box.off3 {w : World} {g g' : Nat} {t : TypeId} {cs : Array Value} (h : Box w g t cs) (hne : g ≠ g') (u v s : Value) : Box (((w.setCell ⟨g', 0, none⟩ u).setCell ⟨g', 1, none⟩ v).setCell ⟨g', 2, none⟩ s) g t cs :=
  ((h.off hne u).off hne v).off hne s
theorem Box.set3 {w : World} {g : Nat} {t : TypeId} {x y z : Value} (h : Box w g t #[x, y, z]) (u v s : Value) : Box (((w.setCell ⟨g, 0, none⟩ u).setCell ⟨g, 1, none⟩ v).setCell ⟨g, 2, none⟩ s) g t #[u, v, s] :=
  ((h.set 0 u).set 1 v).set 2 s
/-- The multiples of a point: what comes out of infinity by adding the point. -/
noncomputable def mult (a : Int) (p : P3) : Nat → Option P3
  | 0 => some .zero
  | k + 1 => (mult a p k).bind fun s => addP a s p
theorem mult_step {a : Int} {p s : P3} {j : Nat} (h : mult a p j = some s) : mult a p (j + 1) = addP a s p := by rw [mult, h]; rfl
theorem mult_none {a : Int} {p : P3} {j : Nat} (h : mult a p j = none) : ∀ m, mult a p (j + m) = none
  | 0 => h
  | m + 1 => by rw [← Nat.add_assoc, mult, mult_none h m]; rfl
theorem mult_on {a b : Int} {p : P3} (hc : (-1000 ≤ a ∧ a ≤ 1000) ∧ (-10000 ≤ b ∧ b ≤ 10000)) (gp : PtOn a b p) : ∀ {j : Nat} {s : P3}, mult a p j = some s → PtOn a b s
  | 0, s, h => by cases h; exact .inl rfl
  | j + 1, s, h => by
    cases hj : mult a p j with
    | none => rw [mult, hj] at h; cases h
    | some r => rw [mult_step hj] at h; exact addP_on hc (mult_on hc gp hj) gp h
end Go.Proofs.Ytabcnkobojkdhaa
