/- A scope with several labels: what holds at every jump, one predicate a label (own work). -/
import Derived.Test.YtabcnkobojkdhaaDoorPtMul
import Derived.Test.YtabcnkobojkdhaaDoorPRow
import Derived.Scope
import Derived.ScopeJumps
namespace Go.Proofs.YtabcnkobojkdhaaDoor
open Go.RowKit Go.Joins

/-- Where a jump ends: the label's own predicate; every other way out: Q. -/
def jumpTo (J : Nat → Act → World → Prop) (Q : Exit → Act → World → Prop) (e : Exit) (a : Act) (w : World) : Prop :=
  match e with
  | .goto l => J l a w
  | e => Q e a w
theorem wp_scope_labels {P : Program} {c : Code} {a : Act} {w : World} {Q : Exit → Act → World → Prop} (J : Nat → Act → World → Prop) (m : Nat → Act → World → Nat)
    (first : c.wp P (jumpTo J Q) a w)
    (pass : ∀ l a w, J l a w → ∃ rest, findLabel c l = some rest ∧ rest.wp P (jumpTo (fun l' a' w' => J l' a' w' ∧ m l' a' w' < m l a w) Q) a w) : (Code.scope c).wp P Q a w := by
  intro b k cs
  -- from a label on, by the measure
  have back : ∀ n l a w rest, m l a w = n → J l a w → findLabel c l = some rest → ∃ e a' w', Q e a' w' ∧ Arrives P (lone (b.at a (.code rest :: .inScope c :: k)) cs w) b k cs e a' w' := by
    intro n
    induction n using Nat.strongRecOn with
    | _ n ih =>
      intro l a w rest hn hJ hr
      obtain ⟨rest', hr', hw⟩ := pass l a w hJ
      rw [hr] at hr'
      cases hr'
      obtain ⟨e, a1, w1, hq, ha⟩ := hw b (.inScope c :: k) cs
      cases e with
      | goto l' =>
        obtain ⟨hJ', hlt⟩ := hq
        obtain ⟨r2, hr2, _⟩ := pass l' a1 w1 hJ'
        obtain ⟨e2, a2, w2, hq2, ha2⟩ := ih _ (by omega) l' a1 w1 r2 rfl hJ' hr2
        exact ⟨e2, a2, w2, hq2, .of_steps (ha _ (by simp [gotoIn, hr2])) ha2⟩
      | normal => exact ⟨.normal, a1, w1, hq, Steps.trans ha (.one step_inScope)⟩
      | exit id => exact ⟨.exit id, a1, w1, hq, fun k' hk => ha k' (by simp [exitTo, hk])⟩
      | ret => exact ⟨_, a1, w1, hq, ha⟩
      | panic ch => exact ⟨_, a1, w1, hq, ha⟩
      | outgrown => exact ⟨_, a1, w1, hq, ha⟩
  obtain ⟨e, a1, w1, hq, ha⟩ := first b (.inScope c :: k) cs
  cases e with
  | goto l =>
    obtain ⟨r, hr, _⟩ := pass l a1 w1 hq
    obtain ⟨e2, a2, w2, hq2, ha2⟩ := back _ l a1 w1 r rfl hq hr
    exact ⟨e2, a2, w2, hq2, .of_steps (.head step_scope (ha _ (by simp [gotoIn, hr]))) ha2⟩
  | normal => exact ⟨.normal, a1, w1, hq, .head step_scope (Steps.trans ha (.one step_inScope))⟩
  | exit id => exact ⟨.exit id, a1, w1, hq, fun k' hk => .head step_scope (ha k' (by simp [exitTo, hk]))⟩
  | ret => exact ⟨_, a1, w1, hq, .of_steps (.one step_scope) ha⟩
  | panic ch => exact ⟨_, a1, w1, hq, .of_steps (.one step_scope) ha⟩
  | outgrown => exact ⟨_, a1, w1, hq, .of_steps (.one step_scope) ha⟩

theorem OwnP.off {w : World} {base g i : Nat} {v : Value} {L : List P3} (h : OwnP w base v L) (hg : g < base) (u : Value) : OwnP (w.setCell ⟨g, i, none⟩ u) base v L := by
  refine ⟨h.1, ?_⟩
  rcases h.2 with h2 | ⟨g2, cap, cur, hv, hg2, hh, r⟩
  · exact .inl h2
  · exact .inr ⟨g2, cap, cur, hv, hg2, by rw [heap_setCell_other w ⟨g, i, none⟩ g2 u (by show g2 ≠ g; omega)]; exact hh, r⟩
theorem OwnP.off3 {w : World} {base g : Nat} {v : Value} {L : List P3} (h : OwnP w base v L) (hg : g < base) (u v' s : Value) : OwnP (((w.setCell ⟨g, 0, none⟩ u).setCell ⟨g, 1, none⟩ v').setCell ⟨g, 2, none⟩ s) base v L :=
  ((h.off hg u).off hg v').off hg s
/-- The multiples for 1, .., k. -/
noncomputable def multL (a : Int) (p : P3) : Nat → Option (List P3)
  | 0 => some []
  | k + 1 => (multL a p k).bind fun L => (mult a p (k + 1)).map fun s => L ++ [s]
theorem multL_len {a : Int} {p : P3} : ∀ {k : Nat} {L : List P3}, multL a p k = some L → L.length = k
  | 0, L, h => by cases h; rfl
  | k + 1, L, h => by
    cases hk : multL a p k with
    | none => rw [multL, hk] at h; cases h
    | some M =>
      cases hs : mult a p (k + 1) with
      | none => rw [multL, hk, hs] at h; cases h
      | some s => rw [multL, hk, hs] at h; cases h; rw [List.length_append, multL_len hk]; rfl
theorem multL_none {a : Int} {p : P3} {k : Nat} (h : multL a p k = none) : ∀ m, multL a p (k + m) = none
  | 0 => h
  | m + 1 => by rw [← Nat.add_assoc, multL, multL_none h m]; rfl
theorem multL_stop {a : Int} {p : P3} {k : Nat} (h : mult a p (k + 1) = none) : multL a p (k + 1) = none := by
  rw [multL, h]; cases multL a p k <;> rfl
theorem multL_step {a : Int} {p s : P3} {k : Nat} {L : List P3} (h : multL a p k = some L) (hs : mult a p (k + 1) = some s) : multL a p (k + 1) = some (L ++ [s]) := by rw [multL, h, hs]; rfl
theorem multL_last {a : Int} {p : P3} {k : Nat} {L : List P3} (h : multL a p (k + 1) = some L) : ∃ s, mult a p (k + 1) = some s ∧ L[k]?.getD .zero = s := by
  cases hk : multL a p k with
  | none => rw [multL, hk] at h; cases h
  | some M =>
    cases hs : mult a p (k + 1) with
    | none => rw [multL, hk, hs] at h; cases h
    | some s =>
      rw [multL_step hk hs] at h; cases h
      refine ⟨s, rfl, ?_⟩
      rw [List.getElem?_append_right (by rw [multL_len hk]; exact Nat.le_refl _), multL_len hk]
      simp
theorem multL_iff {a : Int} {p : P3} {k : Nat} : multL a p (k + 1) = none ↔ mult a p (k + 1) = none := by
  constructor
  · intro h
    cases hs : mult a p (k + 1) with
    | none => rfl
    | some s =>
      have hall : ∀ j, j ≤ k + 1 → ∃ L, multL a p j = some L := by
        intro j
        induction j with
        | zero => intro _; exact ⟨[], rfl⟩
        | succ j ih =>
          intro hj
          obtain ⟨L, hL⟩ := ih (by omega)
          cases hq : mult a p (j + 1) with
          | none =>
            have := mult_none hq (k + 1 - (j + 1))
            rw [show j + 1 + (k + 1 - (j + 1)) = k + 1 from by omega, hs] at this
            cases this
          | some q => exact ⟨_, multL_step hL hq⟩
      obtain ⟨L, hL⟩ := hall (k + 1) (Nat.le_refl _)
      rw [hL] at h; cases h
  · exact multL_stop
end Go.Proofs.YtabcnkobojkdhaaDoor
