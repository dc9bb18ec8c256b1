/- Sums on a curve over a ring without divisors of 0: they go together (own work). -/
import Derived.KernelRfl
namespace Go.Proofs.Ytbgoiflkpefckaa
open Lean.Grind
variable {R : Type} [CommRing R]

/-- No two of them that are not 0 have the product 0. -/
def NZ (R : Type) [CommRing R] : Prop := ∀ x y : R, x * y = 0 → x = 0 ∨ y = 0
def Cv (a b x y : R) : Prop := y * y = x * x * x + a * x + b
theorem mv0 {u v : R} (h : u - v = 0) : u = v := by grind
theorem mv1 {u v w : R} (h : u - v = w) : u = v + w := by grind
theorem mv2 {u v w : R} (h : u - v = w) : v = u - w := by grind
theorem mv3 {u v w x : R} (h : u = v - w - x) : x = v - w - u := by grind
theorem mv5 {m1 n q w l : R} (s : n * q = w) : q * (m1 * (n + l)) = m1 * (w + l * q) := by rw [← s]; grind
theorem mv6 {m1 n q w l : R} (s : q = n * w) : w * (m1 * (n + l)) = m1 * (q + l * w) := by rw [s]; grind
theorem mv4 {a b c d e f : R} (h : a = b + c + d + e + f) : e = a - b - c - d - f := by grind
theorem idB (l x1 x2 x4 y2 : R) : l * (x1 - x4) - (y2 + l * (x1 - x2)) = l * (x2 - x4) - y2 := by grind
theorem idD (x : R) : 4 * -(3 * x * x) * -(3 * x * x) * -(3 * x * x) + 27 * (2 * x * x * x) * (2 * x * x * x) = 0 := by grind
/-- l is the slope of the line through two points that are not opposite. -/
structure Ln (a x1 y1 x2 y2 l : R) : Prop where
  d : y1 - y2 = l * (x1 - x2)
  s : l * (y1 + y2) = x1 * x1 + x1 * x2 + x2 * x2 + a
  n : ¬ (x1 = x2 ∧ y1 + y2 = 0)

theorem Ln.symm {a x1 y1 x2 y2 l : R} (h : Ln a x1 y1 x2 y2 l) : Ln a x2 y2 x1 y1 l := by
  obtain ⟨d, s, n⟩ := h
  refine ⟨by grind, by grind, fun e => n ⟨e.1.symm, by grind⟩⟩
theorem Ln.neg {a x1 y1 x2 y2 l : R} (h : Ln a x1 y1 x2 y2 l) : Ln a x1 (-y1) x2 (-y2) (-l) := by
  obtain ⟨d, s, n⟩ := h
  refine ⟨by grind, by grind, fun e => n ⟨e.1, by grind⟩⟩
theorem NZ.can (z : NZ R) {c x y : R} (hc : c ≠ 0) (e : c * x = c * y) : x = y := by
  rcases z c (x - y) (by grind) with h | h
  · exact absurd h hc
  · grind
theorem Ln.uniq (z : NZ R) {a x1 y1 x2 y2 l m : R} (h : Ln a x1 y1 x2 y2 l) (k : Ln a x1 y1 x2 y2 m) : l = m := by
  by_cases e : x1 = x2
  · have hs : y1 + y2 ≠ 0 := fun e2 => h.n ⟨e, e2⟩
    exact z.can hs (by have := h.s; have := k.s; grind)
  · have hd : x1 - x2 ≠ 0 := fun e2 => e (mv0 e2)
    exact z.can hd (by have := h.d; have := k.d; grind)

theorem line_lin {a x1 y1 x2 y2 l : R} (d : y1 - y2 = l * (x1 - x2)) (s : l * (y1 + y2) = x1 * x1 + x1 * x2 + x2 * x2 + a) :
    2 * l * y1 = x1 * x1 + x1 * x2 + x2 * x2 + a + l * l * (x1 - x2) := by
  have e : y2 = y1 - l * (x1 - x2) := by grind
  subst e
  grind
theorem third_cv {a b x1 y1 x2 y2 l x3 : R} (c : Cv a b x1 y1) (h : Ln a x1 y1 x2 y2 l) (e3 : x3 = l * l - x1 - x2) : Cv a b x3 (l * (x1 - x3) - y1) := by
  have hl := line_lin h.d h.s
  unfold Cv at *
  have e1 : b = y1 * y1 - x1 * x1 * x1 - a * x1 := by grind
  have e2 : a = 2 * l * y1 - x1 * x1 - x1 * x2 - x2 * x2 - l * l * (x1 - x2) := by grind
  have e4 : x2 = l * l - x1 - x3 := mv3 e3
  clear h c hl
  subst e1
  subst e2
  subst e4
  clear e3
  grind
theorem other_cv {a b x1 y1 x2 y2 l : R} (c : Cv a b x1 y1) (h : Ln a x1 y1 x2 y2 l) : Cv a b x2 y2 := by
  have hl := line_lin h.d h.s
  have hd := h.d
  unfold Cv at *
  have e1 : b = y1 * y1 - x1 * x1 * x1 - a * x1 := by grind
  have e2 : a = 2 * l * y1 - x1 * x1 - x1 * x2 - x2 * x2 - l * l * (x1 - x2) := by grind
  have e4 : y2 = y1 - l * (x1 - x2) := mv2 hd
  clear h c hl hd
  subst e1
  subst e2
  subst e4
  grind
/-- The third point of the line, with the second one. -/
theorem Ln.third (z : NZ R) (t2 : (2 : R) ≠ 0) {a b x1 y1 x2 y2 l x3 y3 : R} (D : 4 * a * a * a + 27 * b * b ≠ 0) (c : Cv a b x1 y1) (h : Ln a x1 y1 x2 y2 l) (e3 : x3 = l * l - x1 - x2) (f3 : y3 = l * (x1 - x3) - y1) : Ln a x3 (-y3) x2 y2 l := by
  have c2 := other_cv c h
  have hl := line_lin h.d h.s
  have hd := h.d
  have r1 : -y3 - y2 = l * (x3 - x2) := by grind
  have r2 : l * (-y3 + y2) = x3 * x3 + x3 * x2 + x2 * x2 + a := by
    have e2 : a = 2 * l * y1 - x1 * x1 - x1 * x2 - x2 * x2 - l * l * (x1 - x2) := by grind
    have e4 : y2 = y1 - l * (x1 - x2) := mv2 hd
    clear hl hd h c c2 r1 D
    subst e2
    subst e4
    subst f3
    subst e3
    grind
  refine ⟨r1, r2, fun ⟨q1, q2⟩ => ?_⟩
  have u1 : 2 * y2 = 0 := by rw [q1] at r1; grind
  have u2 : y2 = 0 := by
    rcases z _ _ u1 with h | h
    · exact absurd h t2
    · exact h
  have u3 : a = -(3 * x2 * x2) := by rw [q1, q2] at r2; grind
  unfold Cv at c2
  have u4 : b = 2 * x2 * x2 * x2 := by rw [u2, u3] at c2; grind
  apply D
  rw [u3, u4]
  exact idD x2

theorem relid {a x1 x2 x3 y2 l m : R} (h1 : 2 * l * y2 = x2 * x2 + x2 * x1 + x1 * x1 + a + l * l * (x2 - x1)) (k1 : 2 * m * y2 = x2 * x2 + x2 * x3 + x3 * x3 + a + m * m * (x2 - x3)) :
    2 * y2 * (l - m) = (x1 - x3) * (x1 + x2 + x3) - l * l * (x1 - x2) + m * m * (x3 - x2) := by grind
/-- Four slopes: (A + B) + C and A + (B + C). -/
theorem slope_q {a x1 y1 x2 y2 x3 y3 l m n x4 y4 : R} (h : Ln a x1 y1 x2 y2 l) (k : Ln a x2 y2 x3 y3 m) (e4 : x4 = l * l - x1 - x2) (f4 : y4 = l * (x1 - x4) - y1) (z : NZ R) (g : Ln a x4 y4 x3 y3 n) :
    (l - m) * (n + l) = x1 - x3 := by
  have h1 := line_lin h.symm.d h.symm.s
  have k1 := line_lin k.d k.s
  have hd := h.d
  have kd := k.d
  have A1 : y1 = y2 + l * (x1 - x2) := mv1 hd
  have A3 : y3 = y2 - m * (x2 - x3) := mv2 kd
  have B4 : y4 = l * (x2 - x4) - y2 := by rw [f4, A1]; exact idB _ _ _ _ _
  have rel : 2 * y2 * (l - m) = (x1 - x3) * (x1 + x2 + x3) - l * l * (x1 - x2) + m * m * (x3 - x2) := relid h1 k1
  by_cases e : x4 = x3
  · have hs : y4 + y3 ≠ 0 := fun q => g.n ⟨e, q⟩
    refine z.can hs ?_
    have gs := g.s
    have t1 : (y4 + y3) * ((l - m) * (n + l)) = (l - m) * (x4 * x4 + x4 * x3 + x3 * x3 + a + l * (y4 + y3)) := mv5 gs
    rw [t1]
    have t2 : a = 2 * l * y2 - x2 * x2 - x2 * x1 - x1 * x1 - l * l * (x2 - x1) := mv4 h1
    clear t1 gs hs e g kd hd k1 h1 f4
    subst B4
    subst A3
    subst t2
    subst e4
    clear k h A1
    grind
  · have hu : x4 - x3 ≠ 0 := fun q => e (mv0 q)
    refine z.can hu ?_
    have gd := g.d
    have t1 : (x4 - x3) * ((l - m) * (n + l)) = (l - m) * (y4 - y3 + l * (x4 - x3)) := mv6 gd
    rw [t1]
    clear t1 gd hu e g kd hd k1 h1 f4
    subst B4
    subst A3
    subst e4
    clear k h A1
    grind

abbrev Pt (R : Type) := Option (R × R)
/-- s + t = u. -/
inductive Sm (a : R) : Pt R → Pt R → Pt R → Prop
  | left (t) : Sm a none t t
  | right (s) : Sm a s none s
  | opp (x y z) (h : y + z = 0) : Sm a (some (x, y)) (some (x, z)) none
  | gen (x1 y1 x2 y2 l x3 y3) (h : Ln a x1 y1 x2 y2 l) (e : x3 = l * l - x1 - x2) (f : y3 = l * (x1 - x3) - y1) : Sm a (some (x1, y1)) (some (x2, y2)) (some (x3, y3))
def On (a b : R) : Pt R → Prop
  | none => True
  | some (x, y) => Cv a b x y
def ng : Pt R → Pt R
  | none => none
  | some (x, y) => some (x, -y)

theorem Sm.uniq (z : NZ R) {a : R} {s t u v : Pt R} (h : Sm a s t u) (k : Sm a s t v) : u = v := by
  cases h with
  | left t => cases k <;> rfl
  | right s => cases k <;> rfl
  | opp x y z h =>
    cases k with
    | opp => rfl
    | gen _ _ _ _ l _ _ g => exact absurd ⟨rfl, h⟩ g.n
  | gen x1 y1 x2 y2 l x3 y3 g e f =>
    cases k with
    | opp _ _ _ h => exact absurd ⟨rfl, h⟩ g.n
    | gen _ _ _ _ m x3' y3' g' e' f' =>
      have := g.uniq z g'
      subst this
      subst e; subst f; subst e'; subst f'; rfl
theorem cm1 {l x1 x2 : R} : l * l - x1 - x2 = l * l - x2 - x1 := by grind
theorem cm2 {l x1 x2 x3 y1 y2 : R} (h : y1 - y2 = l * (x1 - x2)) : l * (x1 - x3) - y1 = l * (x2 - x3) - y2 := by grind
theorem cm3 {x y : R} (h : x + y = 0) : y + x = 0 := by grind
theorem cm4 {x y : R} (h : x + y = 0) : -x + -y = 0 := by grind
theorem cm5 {l x1 x3 y1 : R} : -(l * (x1 - x3) - y1) = -l * (x1 - x3) - -y1 := by grind
theorem cm6 {l x1 x2 : R} : l * l - x1 - x2 = -l * -l - x1 - x2 := by grind
theorem cm7 {x y : R} (h : x + y = 0) : y = -x := by grind
theorem cm8 {x : R} : x + -x = 0 := by grind
theorem cm9 {x : R} : - -x = x := by grind
theorem Sm.comm {a : R} {s t u : Pt R} (h : Sm a s t u) : Sm a t s u := by
  cases h with
  | left t => exact .right _
  | right s => exact .left _
  | opp x y z h => exact .opp x z y (cm3 h)
  | gen x1 y1 x2 y2 l x3 y3 g e f => exact .gen _ _ _ _ l _ _ g.symm (e.trans cm1) (f.trans (cm2 g.d))
theorem Sm.neg {a : R} {s t u : Pt R} (h : Sm a s t u) : Sm a (ng s) (ng t) (ng u) := by
  cases h with
  | left t => exact .left _
  | right s => exact .right _
  | opp x y z h => exact .opp x _ _ (cm4 h)
  | gen x1 y1 x2 y2 l x3 y3 g e f => exact .gen _ _ _ _ (-l) _ _ g.neg (e.trans cm6) (by rw [f]; exact cm5)
theorem Sm.self {a : R} (s : Pt R) : Sm a s (ng s) none := by
  rcases s with _ | ⟨x, y⟩
  · exact .left _
  · exact .opp _ _ _ cm8
theorem ng_ng (s : Pt R) : ng (ng s) = s := by
  rcases s with _ | ⟨x, y⟩
  · rfl
  · show some (x, - -y) = some (x, y); rw [cm9]
theorem Cv.neg {a b x y : R} (h : Cv a b x y) : Cv a b x (-y) := by unfold Cv at *; grind
theorem On.neg {a b : R} {s : Pt R} (h : On a b s) : On a b (ng s) := by
  rcases s with _ | ⟨x, y⟩
  · trivial
  · exact Cv.neg h
theorem Sm.on {a b : R} {s t u : Pt R} (h : Sm a s t u) (hs : On a b s) (ht : On a b t) : On a b u := by
  cases h with
  | left t => exact ht
  | right s => exact hs
  | opp => trivial
  | gen x1 y1 x2 y2 l x3 y3 g e f => rw [f]; exact third_cv hs g e
/-- Facts of the ring and of the curve. -/
structure Fd (a b : R) : Prop where
  z : NZ R
  two : (2 : R) ≠ 0
  D : 4 * a * a * a + 27 * b * b ≠ 0
theorem td1 {l x1 x2 x3 : R} (e : x3 = l * l - x1 - x2) : x1 = l * l - x3 - x2 := by grind
theorem td2 {l x1 x3 y1 y3 : R} (f : y3 = l * (x1 - x3) - y1) : -y1 = l * (x3 - x1) - -y3 := by grind
/-- s + t = u: u - t = s. -/
theorem Sm.back {a b : R} (F : Fd a b) {s t u : Pt R} (h : Sm a s t u) (hs : On a b s) : Sm a u (ng t) s := by
  cases h with
  | left t => exact .self t
  | right s => exact .right s
  | opp x y z h => rw [show ng (some (x, z)) = some (x, y) from by show some (x, -z) = some (x, y); rw [← cm7 (cm3 h)]]; exact .left _
  | gen x1 y1 x2 y2 l x3 y3 g e f =>
    have k := Ln.third F.z F.two F.D hs g e f
    have k2 := (Sm.gen _ _ _ _ l x1 (-y1) k (td1 e) (td2 f)).neg
    simpa [ng, cm9] using k2
/-- s + t = s: t is the zero. -/
theorem Sm.zero {a b : R} (F : Fd a b) {s t : Pt R} (h : Sm a s t s) (ht : On a b t) : t = none := by
  have := (h.comm.back F ht)
  exact this.uniq F.z (.self s)

theorem as1 {x y l : R} (z : NZ R) {c : R} (hc : c ≠ 0) (h : c * x = y) (k : c * l = y) : x = l := z.can hc (h.trans k.symm)
theorem as3 {l m q x1 x2 x3 x4 x5 : R} (hq : (l - m) * q = x1 - x3) (e4 : x4 = l * l - x1 - x2) (e5 : x5 = m * m - x2 - x3) :
    (q - l) * (q - l) - x4 - x3 = (q - m) * (q - m) - x1 - x5 := by
  have h1 : x1 = (l - m) * q + x3 := by rw [hq]; grind
  subst h1
  subst e4
  subst e5
  clear hq
  grind
theorem as4 {l m q x1 y1 x2 y2 x3 y3 x5 X : R} (hq : (l - m) * q = x1 - x3) (hX : X = (q - m) * (q - m) - x1 - x5) (e5 : x5 = m * m - x2 - x3)
    (d1 : y1 = y2 + l * (x1 - x2)) (d3 : y3 = y2 - m * (x2 - x3)) :
    (q - l) * (x3 - X) - y3 = (q - m) * (x1 - X) - y1 := by
  have h1 : x1 = (l - m) * q + x3 := by rw [hq]; grind
  clear hq
  subst hX
  subst d1
  subst d3
  subst e5
  subst h1
  grind
theorem as5 {n q l : R} (h : n + l = q) : n = q - l := by grind

theorem as6 {l m k x1 x3 : R} (h : (m - l) * (k + m) = x3 - x1) : (l - m) * (k + m) = x1 - x3 := by grind
theorem as7 {l n x1 x3 : R} (h : (l - l) * n = x1 - x3) : x1 = x3 := by grind
theorem as8 {l x1 x2 y1 y2 y3 : R} (h : y1 - y2 = l * (x1 - x2)) (k : y2 - y3 = l * (x2 - x1)) : y1 = y3 := by grind
theorem Sm.cases {a x y : R} {s t : Pt R} (h : Sm a s t (some (x, y))) : (s = none ∧ t = some (x, y)) ∨ (t = none ∧ s = some (x, y)) ∨ ∃ x1 y1 x2 y2 l, s = some (x1, y1) ∧ t = some (x2, y2) ∧ Ln a x1 y1 x2 y2 l ∧ x = l * l - x1 - x2 ∧ y = l * (x1 - x) - y1 := by
  cases h with
  | left => exact .inl ⟨rfl, rfl⟩
  | right => exact .inr (.inl ⟨rfl, rfl⟩)
  | gen x1 y1 x2 y2 l _ _ g e f => exact .inr (.inr ⟨x1, y1, x2, y2, l, rfl, rfl, g, e, f⟩)
/-- Sums go together. -/
theorem Sm.assoc {a b : R} (F : Fd a b) {A B C D E G H : Pt R} (hA : On a b A) (hB : On a b B) (hC : On a b C) (h1 : Sm a A B D) (h2 : Sm a D C E) (h3 : Sm a B C G) (h4 : Sm a A G H) : E = H := by
  have hD := h1.on hA hB
  have hG := h3.on hB hC
  rcases D with _ | ⟨x4, y4⟩
  · -- A = -B
    have e1 : A = ng B := (Sm.uniq F.z (.left _) (h1.back F hA)).symm
    have e2 : E = C := h2.uniq F.z (.left _)
    have h5 := h3.comm.back F hC
    subst e1
    rw [e2]; exact (h5.comm.uniq F.z h4)
  rcases G with _ | ⟨x5, y5⟩
  · have e1 : H = A := h4.uniq F.z (.right _)
    have e2 : B = ng C := (Sm.uniq F.z (.left _) (h3.back F hB)).symm
    have h5 := h1.back F hA
    rw [e2, ng_ng] at h5
    rw [e1]; exact h2.uniq F.z h5
  rcases E with _ | ⟨x6, y6⟩
  · -- D = -C
    have e1 : some (x4, y4) = ng C := (Sm.uniq F.z (.left _) (h2.back F hD)).symm
    have h5 := (h1.back F hA).neg
    rw [ng_ng, e1, ng_ng] at h5
    have e2 := h3.uniq F.z h5.comm
    rw [e2] at h4
    exact (Sm.uniq F.z h4 (.self A)).symm
  rcases H with _ | ⟨x7, y7⟩
  · have e1 : A = ng (some (x5, y5)) := (Sm.uniq F.z (.left _) (h4.back F hA)).symm
    have h5 := (h3.comm.back F hC).neg
    rw [ng_ng, ← e1] at h5
    have h6 := h1.uniq F.z h5
    rw [h6] at h2
    have h7 := (Sm.self (a := a) C).comm
    exact (Sm.uniq F.z h2 h7)
  -- only lines are left
  obtain ⟨q1, q2⟩ | ⟨q1, q2⟩ | ⟨x1, y1, x2, y2, l, rfl, rfl, g1, e1, f1⟩ := h1.cases
  · subst q1; subst q2; exact (h2.uniq F.z h3).trans (Sm.uniq F.z (.left _) h4)
  · subst q1; subst q2; have e := Sm.uniq F.z (.left _) h3; rw [← e] at h4; exact h2.uniq F.z h4
  obtain ⟨q1, q2⟩ | ⟨q1, q2⟩ | ⟨_, _, x3, y3, m, hh, rfl, g3, e3, f3⟩ := h3.cases
  · cases q1
  · subst q1; rw [← q2] at h4; exact (Sm.uniq F.z h2 (.right _)).trans (h1.uniq F.z h4)
  obtain ⟨rfl, rfl⟩ := Prod.mk.inj (Option.some.inj hh)
  obtain ⟨q1, q2⟩ | ⟨q1, q2⟩ | ⟨_, _, _, _, n, hh, hh2, g2, e2, f2⟩ := h2.cases
  · cases q1
  · cases q1
  obtain ⟨rfl, rfl⟩ := Prod.mk.inj (Option.some.inj hh)
  obtain ⟨rfl, rfl⟩ := Prod.mk.inj (Option.some.inj hh2)
  obtain ⟨q1, q2⟩ | ⟨q1, q2⟩ | ⟨_, _, _, _, k, hh, hh2, g4, e5, f5⟩ := h4.cases
  · cases q1
  · cases q1
  obtain ⟨rfl, rfl⟩ := Prod.mk.inj (Option.some.inj hh)
  obtain ⟨rfl, rfl⟩ := Prod.mk.inj (Option.some.inj hh2)
  have K1 := slope_q g1 g3 e1 f1 F.z g2
  have K2 := slope_q g3.symm g1.symm (e3.trans cm1) (f3.trans (cm2 g3.d)) F.z g4.symm
  have K3 : (l - m) * (k + m) = x1 - x3 := as6 K2
  by_cases hlm : l = m
  · subst hlm
    have hx : x1 = x3 := as7 K1
    subst hx
    have hy : y1 = y3 := as8 g1.d g3.d
    subst hy
    have hu := h1.uniq F.z h3.comm
    rw [hu] at h2
    exact h2.uniq F.z h4.comm
  · have hc : l - m ≠ 0 := fun q => hlm (mv0 q)
    have hq : n + l = k + m := F.z.can hc (K1.trans K3.symm)
    obtain ⟨q, hq1⟩ : ∃ q, q = n + l := ⟨_, rfl⟩
    have hn : n = q - l := as5 hq1.symm
    have hk : k = q - m := as5 (hq.symm.trans hq1.symm)
    rw [← hq1] at K1
    have X : x6 = x7 := by
      rw [e2, e5, hn, hk]; exact as3 K1 e1 e3
    subst X
    have Y : y6 = y7 := by
      rw [f2, f5, cm2 g2.d, hn, hk]
      exact as4 K1 (by rw [← hk]; exact e5) e3 (mv1 g1.d) (mv2 g3.d)
    rw [Y]
end Go.Proofs.Ytbgoiflkpefckaa
