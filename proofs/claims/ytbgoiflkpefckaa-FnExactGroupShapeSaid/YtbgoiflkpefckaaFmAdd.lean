/- Points modulo a prime: sums by formulas, what they are in the ring of residues (own work). -/
import Derived.Test.YtbgoiflkpefckaaFm
namespace Go.Proofs.Ytbgoiflkpefckaa
open Lean.Grind

/-- A point: none is infinity. -/
abbrev FP := Option (Nat × Nat)
def rs (p : Nat) (z : Int) : Nat := (z % (p : Int)).toNat
def ivn (p : Nat) (z : Int) : Nat := rs p z ^ (p - 2) % p
/-- The value of the cubic. -/
def fval (a b : Int) (p x : Nat) : Nat := rs p (ecV a b x)
def fslope (a : Int) (p x1 y1 x2 y2 : Nat) : Nat := if x1 = x2 then rs p ((3 * x1 * x1 + a) * ivn p (2 * y1)) else rs p (((y2 : Int) - y1) * ivn p ((x2 : Int) - x1))
def fsx (p l x1 x2 : Nat) : Nat := rs p ((l : Int) * l - x1 - x2)
def fsy (p l x1 y1 x : Nat) : Nat := rs p ((l : Int) * ((x1 : Int) - x) - y1)
def fadd (a : Int) (p : Nat) : FP → FP → FP
  | none, t => t
  | some s, none => some s
  | some (x1, y1), some (x2, y2) => if x1 = x2 ∧ (y1 ≠ y2 ∨ y1 = 0) then none else
      some (fsx p (fslope a p x1 y1 x2 y2) x1 x2, fsy p (fslope a p x1 y1 x2 y2) x1 y1 (fsx p (fslope a p x1 y1 x2 y2) x1 x2))
theorem fadd_opp {a : Int} {p x1 y1 x2 y2 : Nat} (h : x1 = x2 ∧ (y1 ≠ y2 ∨ y1 = 0)) : fadd a p (some (x1, y1)) (some (x2, y2)) = none := if_pos h
theorem fadd_gen {a : Int} {p x1 y1 x2 y2 : Nat} (h : ¬ (x1 = x2 ∧ (y1 ≠ y2 ∨ y1 = 0))) : fadd a p (some (x1, y1)) (some (x2, y2)) = some (fsx p (fslope a p x1 y1 x2 y2) x1 x2, fsy p (fslope a p x1 y1 x2 y2) x1 y1 (fsx p (fslope a p x1 y1 x2 y2) x1 x2)) := if_neg h
def fneg (p : Nat) : FP → FP
  | none => none
  | some (x, y) => some (x, rs p (-(y : Int)))
def FOn (a b : Int) (p : Nat) : FP → Prop
  | none => True
  | some (x, y) => x < p ∧ y < p ∧ y * y % p = fval a b p x
/-- A good prime. -/
structure FG (a b : Int) (p : Nat) : Prop where
  pr : Pr p
  five : 5 ≤ p
  le : p ≤ 997
  g : EcG a b
  d : ecD a b % p ≠ 0

theorem rs_lt {p : Nat} (hp : 0 < p) (z : Int) : rs p z < p := by
  have := Int.emod_lt_of_pos z (show (0 : Int) < p by omega)
  have := Int.emod_nonneg z (show (p : Int) ≠ 0 by omega)
  unfold rs; omega
theorem rs_cast {p : Nat} (hp : 0 < p) (z : Int) : (rs p z : Int) = z % p := by
  have := Int.emod_nonneg z (show (p : Int) ≠ 0 by omega)
  unfold rs; omega
theorem rs_mod {p : Nat} (z : Int) (hp : 0 < p) : (rs p z : Int) % p = z % p := by rw [rs_cast hp, Int.emod_emod_of_dvd _ (Int.dvd_refl _)]
theorem rs_nat {p n : Nat} (h : n < p) : rs p n = n := by
  unfold rs; rw [Int.emod_eq_of_lt (by omega) (by omega)]; omega
theorem ivn_lt {p : Nat} (hp : 0 < p) (z : Int) : ivn p z < p := Nat.mod_lt _ hp

section
variable {p : Nat} [NeZero p]
abbrev cf (p : Nat) [NeZero p] (z : Int) : Fin p := ca (Fin p) z
theorem pos : 0 < p := Nat.pos_of_ne_zero (NeZero.ne p)
theorem cf_rs (z : Int) : cf p (rs p z) = cf p z := ca_eq.2 (rs_mod z pos)
theorem cf_inj {m n : Nat} (hm : m < p) (hn : n < p) : cf p m = cf p n ↔ m = n := by
  constructor
  · intro h
    have := ca_eq.1 h
    rw [Int.emod_eq_of_lt (by omega) (by omega), Int.emod_eq_of_lt (by omega) (by omega)] at this
    omega
  · rintro rfl; rfl
theorem cf_inv {z : Int} (hp : Pr p) (hp2 : p ≤ 997) (hz : cf p z ≠ 0) : cf p (ivn p z) * cf p z = 1 := by
  have hp1 := hp.1
  have hr : rs p z % p ≠ 0 := by
    intro e; apply hz; rw [← cf_rs, ca_eq0]; omega
  have h1 := hp.fermat hp2 hr
  rw [← cf_rs z, ← ca_mul, ← ca_one, ca_eq]
  have h2 : ((ivn p z * rs p z : Nat) : Int) = (ivn p z : Int) * (rs p z : Int) := Int.natCast_mul _ _
  have h3 : ivn p z * rs p z % p = 1 := by
    unfold ivn
    rw [Nat.mod_mul_mod, ← Nat.pow_succ, show (p - 2).succ = p - 1 from by omega]; exact h1
  rw [← h2, Int.emod_eq_of_lt (a := 1) (by omega) (by omega)]
  omega
def fi (p : Nat) [NeZero p] : FP → Pt (Fin p)
  | none => none
  | some (x, y) => some (cf p x, cf p y)
theorem cf_cv {a b : Int} {x y : Nat} (h : y * y % p = fval a b p x) : Cv (cf p a) (cf p b) (cf p x) (cf p y) := by
  unfold Cv cf
  rw [← ca_mul, ← ca_mul, ← ca_mul, ← ca_mul, ← ca_add, ← ca_add, ca_eq]
  have h2 : ((y * y : Nat) : Int) = (y : Int) * y := Int.natCast_mul _ _
  have h3 := rs_cast (pos (p := p)) (ecV a b x)
  rw [show rs p (ecV a b x) = fval a b p x from rfl, ← h] at h3
  rw [← h2, show (x : Int) * x * x + a * x + b = ecV a b x from rfl, ← h3]
  omega
theorem cv_cf {a b : Int} {x y : Nat} (h : Cv (cf p a) (cf p b) (cf p x) (cf p y)) : y * y % p = fval a b p x := by
  unfold Cv cf at h
  rw [← ca_mul, ← ca_mul, ← ca_mul, ← ca_mul, ← ca_add, ← ca_add, ca_eq] at h
  have h2 : ((y * y : Nat) : Int) = (y : Int) * y := Int.natCast_mul _ _
  have h3 := rs_cast (pos (p := p)) (ecV a b x)
  rw [← h2, show (x : Int) * x * x + a * x + b = ecV a b x from rfl, ← h3, show rs p (ecV a b x) = fval a b p x from rfl] at h
  have h4 : fval a b p x < p := rs_lt pos _
  omega
theorem FOn.fi {a b : Int} {s : FP} (h : FOn a b p s) : On (cf p a) (cf p b) (fi p s) := by
  rcases s with _ | ⟨x, y⟩
  · trivial
  · exact cf_cv h.2.2
theorem fi_inj {a b : Int} {s t : FP} (hs : FOn a b p s) (ht : FOn a b p t) (h : fi p s = fi p t) : s = t := by
  rcases s with _ | ⟨x, y⟩ <;> rcases t with _ | ⟨u, v⟩
  · rfl
  · cases h
  · cases h
  · have h2 := Prod.mk.inj (Option.some.inj h)
    rw [(cf_inj hs.1 ht.1).1 h2.1, (cf_inj hs.2.1 ht.2.1).1 h2.2]
theorem FG.fd {a b : Int} (G : FG a b p) : Fd (cf p a) (cf p b) := by
  have := G.five
  refine ⟨G.pr.nz, ?_, ?_⟩
  · intro h
    have h1 : ca (Fin p) (OfNat.ofNat 2 : Int) = 0 := by rw [ca_nat]; exact h
    rw [ca_eq0] at h1
    have h2 : (2 : Int) % p = 2 := Int.emod_eq_of_lt (by omega) (by omega)
    have h3 : (2 : Int) % p = 0 := h1
    omega
  · intro h
    apply G.d
    rw [← ca_eq0 (p := p)]
    unfold ecD
    rw [ca_add, ca_mul, ca_mul, ca_mul, ca_mul, ca_mul]
    rw [show ca (Fin p) 4 = 4 from ca_nat 4, show ca (Fin p) 27 = 27 from ca_nat 27]
    exact h
theorem fneg_fi (s : FP) : fi p (fneg p s) = ng (fi p s) := by
  rcases s with _ | ⟨x, y⟩
  · rfl
  · show some (cf p x, cf p (rs p (-(y : Int)))) = some (cf p x, -cf p y)
    rw [cf_rs, show cf p (-(y : Int)) = -cf p y from ca_neg _]

theorem sl1 {R : Type} [CommRing R] {x1 x2 y1 y2 i l : R} (hi : i * (x2 - x1) = 1) (hl : l = (y2 - y1) * i) : y1 - y2 = l * (x1 - x2) := by
  subst hl
  have : (y2 - y1) * i * (x1 - x2) = -(y2 - y1) * (i * (x2 - x1)) := by grind
  rw [this, hi]; grind
theorem sl2 {R : Type} [CommRing R] {a b x1 x2 y1 y2 l : R} (z : NZ R) (hx : x1 - x2 ≠ 0) (d : y1 - y2 = l * (x1 - x2)) (c1 : Cv a b x1 y1) (c2 : Cv a b x2 y2) : l * (y1 + y2) = x1 * x1 + x1 * x2 + x2 * x2 + a := by
  refine z.can hx ?_
  unfold Cv at c1 c2
  have e1 : (x1 - x2) * (l * (y1 + y2)) = (y1 - y2) * (y1 + y2) := by rw [d]; grind
  have e2 : (y1 - y2) * (y1 + y2) = y1 * y1 - y2 * y2 := by grind
  rw [e1, e2, c1, c2]
  clear d e1 e2 c1 c2 hx z
  grind
theorem sl3 {R : Type} [CommRing R] {a x y i l : R} (hi : i * (2 * y) = 1) (hl : l = (3 * x * x + a) * i) : l * (y + y) = x * x + x * x + x * x + a := by
  subst hl
  have : (3 * x * x + a) * i * (y + y) = (3 * x * x + a) * (i * (2 * y)) := by grind
  rw [this, hi]; grind
theorem sl4 {R : Type} [CommRing R] {y : R} : y + y = 2 * y := by grind
theorem sl5 {R : Type} [CommRing R] {x y : R} (h : x * x = y * y) : (x - y) * (x + y) = 0 := by grind

theorem fadd_sm {a b : Int} (G : FG a b p) {s t : FP} (hs : FOn a b p s) (ht : FOn a b p t) : Sm (cf p a) (fi p s) (fi p t) (fi p (fadd a p s t)) := by
  have F := G.fd
  rcases s with _ | ⟨x1, y1⟩
  · exact .left _
  rcases t with _ | ⟨x2, y2⟩
  · exact .right _
  have c1 := cf_cv hs.2.2
  have c2 := cf_cv ht.2.2
  by_cases hx : x1 = x2
  · subst hx
    have hsq : (cf p y1 - cf p y2) * (cf p y1 + cf p y2) = 0 := sl5 (by unfold Cv at c1 c2; rw [c1, c2])
    by_cases hy : y1 ≠ y2 ∨ y1 = 0
    · rw [fadd_opp ⟨rfl, hy⟩]
      refine .opp _ _ _ ?_
      by_cases e : y1 = y2
      · have h0 : y1 = 0 := by rcases hy with h | h; exact absurd e h; exact h
        subst e; subst h0
        show cf p ((0 : Nat) : Int) + cf p ((0 : Nat) : Int) = 0
        rw [show cf p ((0 : Nat) : Int) = 0 from ca_zero]
        exact Fin.add_zero 0
      · rcases F.z _ _ hsq with h | h
        · exact absurd ((cf_inj hs.2.1 ht.2.1).1 (mv0 h)) e
        · exact h
    · rw [fadd_gen (fun h => hy h.2)]
      have e : y1 = y2 := by
        by_cases e : y1 = y2
        · exact e
        · exact absurd (.inl e) hy
      subst e
      have h0 : y1 ≠ 0 := fun e => hy (.inr e)
      have hy0 : cf p y1 ≠ 0 := by
        intro e
        rw [ca_eq0, Int.emod_eq_of_lt (by omega) (by have := hs.2.1; omega)] at e
        omega
      have h2y : cf p (2 * (y1 : Int)) ≠ 0 := by
        rw [show cf p (2 * (y1 : Int)) = cf p 2 * cf p y1 from ca_mul _ _]
        intro e
        rcases F.z _ _ e with h | h
        · exact F.two (by rw [← show ca (Fin p) 2 = 2 from ca_nat 2]; exact h)
        · exact hy0 h
      have hinv := cf_inv G.pr G.le h2y
      rw [show cf p (2 * (y1 : Int)) = cf p 2 * cf p y1 from ca_mul _ _, show cf p 2 = 2 from ca_nat 2] at hinv h2y
      have hl : cf p (fslope a p x1 y1 x1 y1) = (3 * cf p x1 * cf p x1 + cf p a) * cf p (ivn p (2 * y1)) := by
        unfold fslope
        rw [if_pos rfl, cf_rs, show ∀ u v : Int, cf p (u * v) = cf p u * cf p v from ca_mul, show ∀ u v : Int, cf p (u + v) = cf p u + cf p v from ca_add, show ∀ u v : Int, cf p (u * v) = cf p u * cf p v from ca_mul, show ∀ u v : Int, cf p (u * v) = cf p u * cf p v from ca_mul, show cf p 3 = 3 from ca_nat 3]
      generalize fslope a p x1 y1 x1 y1 = l at hl ⊢
      have k : Ln (cf p a) (cf p x1) (cf p y1) (cf p x1) (cf p y1) (cf p l) := ⟨by clear hl hinv; grind, sl3 hinv hl, fun h => h2y (by rw [← sl4]; exact h.2)⟩
      refine .gen _ _ _ _ (cf p l) _ _ k ?_ ?_
      · unfold fsx; rw [cf_rs]; rw [show ∀ u v : Int, cf p (u - v) = cf p u - cf p v from ca_sub, show ∀ u v : Int, cf p (u - v) = cf p u - cf p v from ca_sub, show ∀ u v : Int, cf p (u * v) = cf p u * cf p v from ca_mul]
      · unfold fsy; rw [cf_rs]; rw [show ∀ u v : Int, cf p (u - v) = cf p u - cf p v from ca_sub, show ∀ u v : Int, cf p (u * v) = cf p u * cf p v from ca_mul, show ∀ u v : Int, cf p (u - v) = cf p u - cf p v from ca_sub]
  · rw [fadd_gen (fun h => hx h.1)]
    have hd : cf p x1 - cf p x2 ≠ 0 := fun e => hx ((cf_inj hs.1 ht.1).1 (mv0 e))
    have hd2 : cf p ((x2 : Int) - x1) ≠ 0 := by
      rw [show cf p ((x2 : Int) - x1) = cf p x2 - cf p x1 from ca_sub _ _]
      exact fun e => hx ((cf_inj ht.1 hs.1).1 (mv0 e)).symm
    have hinv := cf_inv G.pr G.le hd2
    rw [show cf p ((x2 : Int) - x1) = cf p x2 - cf p x1 from ca_sub _ _] at hinv
    have hl : cf p (fslope a p x1 y1 x2 y2) = (cf p y2 - cf p y1) * cf p (ivn p ((x2 : Int) - x1)) := by
      unfold fslope
      rw [if_neg hx, cf_rs, show ∀ u v : Int, cf p (u * v) = cf p u * cf p v from ca_mul, show ∀ u v : Int, cf p (u - v) = cf p u - cf p v from ca_sub]
    generalize fslope a p x1 y1 x2 y2 = l at hl ⊢
    have d := sl1 hinv hl
    have k : Ln (cf p a) (cf p x1) (cf p y1) (cf p x2) (cf p y2) (cf p l) := ⟨d, sl2 F.z hd d c1 c2, fun h => hx ((cf_inj hs.1 ht.1).1 h.1)⟩
    refine .gen _ _ _ _ (cf p l) _ _ k ?_ ?_
    · unfold fsx; rw [cf_rs]; rw [show ∀ u v : Int, cf p (u - v) = cf p u - cf p v from ca_sub, show ∀ u v : Int, cf p (u - v) = cf p u - cf p v from ca_sub, show ∀ u v : Int, cf p (u * v) = cf p u * cf p v from ca_mul]
    · unfold fsy; rw [cf_rs]; rw [show ∀ u v : Int, cf p (u - v) = cf p u - cf p v from ca_sub, show ∀ u v : Int, cf p (u * v) = cf p u * cf p v from ca_mul, show ∀ u v : Int, cf p (u - v) = cf p u - cf p v from ca_sub]
theorem fadd_on {a b : Int} (G : FG a b p) {s t : FP} (hs : FOn a b p s) (ht : FOn a b p t) : FOn a b p (fadd a p s t) := by
  have h := (fadd_sm G hs ht).on hs.fi ht.fi
  rcases s with _ | ⟨x1, y1⟩
  · exact ht
  rcases t with _ | ⟨x2, y2⟩
  · exact hs
  by_cases hc : x1 = x2 ∧ (y1 ≠ y2 ∨ y1 = 0)
  · rw [fadd_opp hc]; trivial
  · rw [fadd_gen hc] at h ⊢
    exact ⟨rs_lt pos _, rs_lt pos _, cv_cf h⟩
theorem fneg_on {a b : Int} {s : FP} (hs : FOn a b p s) : FOn a b p (fneg p s) := by
  have h := hs.fi.neg
  rw [← fneg_fi] at h
  rcases s with _ | ⟨x, y⟩
  · trivial
  · exact ⟨hs.1, rs_lt pos _, cv_cf h⟩
theorem fadd_assoc {a b : Int} (G : FG a b p) {s t u : FP} (hs : FOn a b p s) (ht : FOn a b p t) (hu : FOn a b p u) : fadd a p (fadd a p s t) u = fadd a p s (fadd a p t u) :=
  fi_inj (fadd_on G (fadd_on G hs ht) hu) (fadd_on G hs (fadd_on G ht hu))
    (Sm.assoc G.fd hs.fi ht.fi hu.fi (fadd_sm G hs ht) (fadd_sm G (fadd_on G hs ht) hu) (fadd_sm G ht hu) (fadd_sm G hs (fadd_on G ht hu)))
theorem fadd_comm {a b : Int} (G : FG a b p) {s t : FP} (hs : FOn a b p s) (ht : FOn a b p t) : fadd a p s t = fadd a p t s :=
  fi_inj (fadd_on G hs ht) (fadd_on G ht hs) ((fadd_sm G hs ht).uniq G.fd.z (fadd_sm G ht hs).comm)
theorem fadd_neg {a b : Int} (G : FG a b p) {s : FP} (hs : FOn a b p s) : fadd a p s (fneg p s) = none := by
  have h1 := fadd_sm G hs (fneg_on hs)
  rw [fneg_fi] at h1
  exact fi_inj (fadd_on G hs (fneg_on hs)) (t := none) trivial (h1.uniq G.fd.z (.self _))
theorem fadd_can {a b : Int} (G : FG a b p) {s t u : FP} (hs : FOn a b p s) (ht : FOn a b p t) (hu : FOn a b p u) (e : fadd a p s t = fadd a p s u) : t = u := by
  have h1 := fadd_sm G hs ht
  have h2 := fadd_sm G hs hu
  rw [← e] at h2
  exact fi_inj ht hu ((h1.comm.back G.fd ht.fi).uniq G.fd.z (h2.comm.back G.fd hu.fi))
end
end Go.Proofs.Ytbgoiflkpefckaa
