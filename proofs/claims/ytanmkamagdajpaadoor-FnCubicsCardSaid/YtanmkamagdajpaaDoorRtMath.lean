/- Rational roots of cubics: which fractions can be roots, at most three of them, the factor that is left, sorted lists of roots, divisors (own work). -/
import Derived.Test.YtanmkamagdajpaaDoorCuGood
namespace Go.Proofs.YtanmkamagdajpaaDoor

/-- Dividing a root out. -/
theorem cu_quad {a b c d p q x y : Int} (h : cuVal a b c d p q = 0) (k : cuVal a b c d x y = 0) (hn : x * q - p * y ≠ 0) :
    (a * q * q) * x * x + (a * q * p + b * q * q) * x * y + (a * p * p + b * p * q + c * q * q) * y * y = 0 := by
  unfold cuVal at h k
  have : (x * q - p * y) * ((a * q * q) * x * x + (a * q * p + b * q * q) * x * y + (a * p * p + b * p * q + c * q * q) * y * y) = 0 := by grind
  rcases Int.mul_eq_zero.1 this with h | h
  · exact absurd h hn
  · exact h
theorem cu_lin {A B C x y u v : Int} (h : A * x * x + B * x * y + C * y * y = 0) (k : A * u * u + B * u * v + C * v * v = 0) (hn : x * v - u * y ≠ 0) :
    A * (x * v + u * y) + B * y * v = 0 := by
  have : (x * v - u * y) * (A * (x * v + u * y) + B * y * v) = 0 := by grind
  rcases Int.mul_eq_zero.1 this with h | h
  · exact absurd h hn
  · exact h
theorem cu_three {a b c d p0 q0 p1 q1 p2 q2 p3 q3 : Int} (ha : a ≠ 0) (h0 : cuVal a b c d p0 q0 = 0) (h1 : cuVal a b c d p1 q1 = 0) (h2 : cuVal a b c d p2 q2 = 0) (h3 : cuVal a b c d p3 q3 = 0)
    (k0 : q0 ≠ 0) (k1 : q1 ≠ 0) (n01 : p1 * q0 - p0 * q1 ≠ 0) (n02 : p2 * q0 - p0 * q2 ≠ 0) (n03 : p3 * q0 - p0 * q3 ≠ 0) (n12 : p2 * q1 - p1 * q2 ≠ 0) (n13 : p3 * q1 - p1 * q3 ≠ 0) (n23 : p3 * q2 - p2 * q3 ≠ 0) : False := by
  have e1 := cu_quad h0 h1 n01
  have e2 := cu_quad h0 h2 n02
  have e3 := cu_quad h0 h3 n03
  have f2 := cu_lin e2 e1 n12
  have f3 := cu_lin e3 e1 n13
  generalize a * q0 * p0 + b * q0 * q0 = B at *
  have : (a * q0 * q0 * q1) * (p3 * q2 - p2 * q3) = 0 := by clear e1 e2 e3 h0 h1 h2 h3; grind
  rcases Int.mul_eq_zero.1 this with h | h
  · rcases Int.mul_eq_zero.1 h with h | h
    · rcases Int.mul_eq_zero.1 h with h | h
      · rcases Int.mul_eq_zero.1 h with h | h
        · exact ha h
        · exact k0 h
      · exact k0 h
    · exact k1 h
  · exact n23 h

theorem co_dvd {p q x : Int} (hg : Nat.gcd p.natAbs q.natAbs = 1) (h : q ∣ x * p) : q ∣ x := by
  have h1 := Int.natAbs_dvd_natAbs.2 h
  rw [Int.natAbs_mul] at h1
  exact Int.natAbs_dvd_natAbs.1 (Nat.Coprime.dvd_of_dvd_mul_right (show Nat.Coprime q.natAbs p.natAbs by rw [Nat.Coprime, Nat.gcd_comm]; exact hg) h1)

theorem cuVal_den {a b c d p q : Int} (hg : Nat.gcd p.natAbs q.natAbs = 1) (h : cuVal a b c d p q = 0) : q ∣ a := by
  have : q ∣ a * p * p * p := ⟨-(b * p * p + c * p * q + d * q * q), by unfold cuVal at h; grind⟩
  exact co_dvd hg (co_dvd hg (co_dvd hg this))

def lastOf (a b c d : Int) : Int := if d ≠ 0 then d else if c ≠ 0 then c else if b ≠ 0 then b else a
theorem cuVal_num {a b c d p q : Int} (ha : a ≠ 0) (hp : p ≠ 0) (hg : Nat.gcd p.natAbs q.natAbs = 1) (h : cuVal a b c d p q = 0) : p ∣ lastOf a b c d := by
  have hg' : Nat.gcd q.natAbs p.natAbs = 1 := by rw [Nat.gcd_comm]; exact hg
  unfold lastOf
  unfold cuVal at h
  by_cases hd : d = 0
  · subst hd
    rw [if_neg (by simp)]
    have h2 : a * p * p + b * p * q + c * q * q = 0 := by
      have : p * (a * p * p + b * p * q + c * q * q) = 0 := by grind
      rcases Int.mul_eq_zero.1 this with h | h
      · exact absurd h hp
      · exact h
    by_cases hc : c = 0
    · subst hc
      rw [if_neg (by simp)]
      have h3 : a * p + b * q = 0 := by
        have : p * (a * p + b * q) = 0 := by grind
        rcases Int.mul_eq_zero.1 this with h | h
        · exact absurd h hp
        · exact h
      by_cases hb : b = 0
      · subst hb
        have : a * p = 0 := by grind
        rcases Int.mul_eq_zero.1 this with h | h
        · exact absurd h ha
        · exact absurd h hp
      · rw [if_pos hb]
        have : p ∣ b * q := ⟨-a, by grind⟩
        exact co_dvd hg' this
    · rw [if_pos hc]
      have : p ∣ c * q * q := ⟨-(a * p + b * q), by grind⟩
      exact co_dvd hg' (co_dvd hg' this)
  · rw [if_pos hd]
    have : p ∣ d * q * q * q := ⟨-(a * p * p + b * p * q + c * q * q), by grind⟩
    exact co_dvd hg' (co_dvd hg' (co_dvd hg' this))

/-- The factor that is left when a root is divided out. -/
theorem cu_factor {a b c d p q : Int} (hq : 0 < q) (hg : Nat.gcd p.natAbs q.natAbs = 1) (h : cuVal a b c d p q = 0) :
    ∃ x y z : Int, a = x * q ∧ b + x * p = y * q ∧ c + y * p = z * q ∧ d = - (z * p) := by
  obtain ⟨x, hx⟩ := cuVal_den hg h
  have hx' : a = x * q := by rw [hx, Int.mul_comm]
  subst hx'
  have cancel : ∀ u : Int, q * u = 0 → u = 0 := fun u hu => by
    rcases Int.mul_eq_zero.1 hu with h | h
    · omega
    · exact h
  have h1 : x * p * p * p + b * p * p + c * p * q + d * q * q = 0 := cancel _ (by unfold cuVal at h; grind)
  have d1 : q ∣ (b + x * p) * p * p := ⟨-(c * p + d * q), by grind⟩
  obtain ⟨y, hy⟩ := co_dvd hg (co_dvd hg d1)
  have hy' : b + x * p = y * q := by rw [hy, Int.mul_comm]
  have h2 : y * p * p + c * p + d * q = 0 := cancel _ (by grind)
  have d2 : q ∣ (c + y * p) * p := ⟨-d, by grind⟩
  obtain ⟨z, hz⟩ := co_dvd hg d2
  have hz' : c + y * p = z * q := by rw [hz, Int.mul_comm]
  have h3 : z * p + d = 0 := cancel _ (by grind)
  exact ⟨x, y, z, rfl, hy', hz', by omega⟩
/-- A fraction in lowest terms that is a root. -/
def RootF (a b c d : Int) (x : Int × Int) : Prop := 1 ≤ x.2 ∧ Nat.gcd x.1.natAbs x.2.natAbs = 1 ∧ cuVal a b c d x.1 x.2 = 0
def FLt (x y : Int × Int) : Prop := x.1 * y.2 < y.1 * x.2
instance (x y : Int × Int) : Decidable (FLt x y) := by unfold FLt; infer_instance

theorem mul_pos_cancel {x y z : Int} (hz : 0 < z) (h : x * z < y * z) : x < y := Int.lt_of_mul_lt_mul_right h (Int.le_of_lt hz)
theorem FLt.trans {x y z : Int × Int} (h : FLt x y) (k : FLt y z) (hx : 1 ≤ x.2) (hy : 1 ≤ y.2) (hz : 1 ≤ z.2) : FLt x z := by
  unfold FLt at *
  have h1 := Int.mul_lt_mul_of_pos_right h (show 0 < z.2 by omega)
  have h2 := Int.mul_lt_mul_of_pos_right k (show 0 < x.2 by omega)
  refine mul_pos_cancel (show 0 < y.2 by omega) ?_
  have e1 : x.1 * y.2 * z.2 = x.1 * z.2 * y.2 := by grind
  have e2 : z.1 * y.2 * x.2 = z.1 * x.2 * y.2 := by grind
  have e3 : y.1 * x.2 * z.2 = y.1 * z.2 * x.2 := by grind
  omega
theorem FLt.irrefl (x : Int × Int) : ¬ FLt x x := by unfold FLt; omega
theorem FLt.asymm {x y : Int × Int} (h : FLt x y) : ¬ FLt y x := by unfold FLt at *; omega

/-- Two fractions in lowest terms with the same value are the same. -/
theorem low_eq {x y : Int × Int} (hx : 1 ≤ x.2) (gx : Nat.gcd x.1.natAbs x.2.natAbs = 1) (hy : 1 ≤ y.2) (gy : Nat.gcd y.1.natAbs y.2.natAbs = 1) (h : x.1 * y.2 = y.1 * x.2) : x = y := by
  have d1 : x.2 ∣ y.2 := co_dvd gx ⟨y.1, by grind⟩
  have d2 : y.2 ∣ x.2 := co_dvd gy ⟨x.1, by grind⟩
  have e : x.2 = y.2 := Int.dvd_antisymm (by omega) (by omega) d1 d2
  have e1 : x.1 = y.1 := by
    rw [e] at h
    exact Int.eq_of_mul_eq_mul_right (by omega) h
  exact Prod.ext e1 e
theorem RootF.tri {a b c d : Int} {x y : Int × Int} (h : RootF a b c d x) (k : RootF a b c d y) : FLt x y ∨ x = y ∨ FLt y x := by
  unfold FLt
  rcases Int.lt_trichotomy (x.1 * y.2) (y.1 * x.2) with h1 | h1 | h1
  · exact .inl h1
  · exact .inr (.inl (low_eq h.1 h.2.1 k.1 k.2.1 h1))
  · exact .inr (.inr h1)
theorem RootF.ne {a b c d : Int} {x y : Int × Int} (h : RootF a b c d x) (k : RootF a b c d y) (hn : x ≠ y) : y.1 * x.2 - x.1 * y.2 ≠ 0 := fun e => hn (low_eq h.1 h.2.1 k.1 k.2.1 (by omega))

def FSorted (L : List (Int × Int)) : Prop := L.Pairwise FLt
/-- The list of the rational roots. -/
structure RL (a b c d : Int) (L : List (Int × Int)) : Prop where
  sorted : FSorted L
  mem : ∀ x, x ∈ L ↔ RootF a b c d x

theorem fsorted_unique : ∀ (L M : List (Int × Int)), (∀ x ∈ L, 1 ≤ x.2) → (∀ x ∈ M, 1 ≤ x.2) → FSorted L → FSorted M → (∀ x, x ∈ L ↔ x ∈ M) → L = M
  | [], M, _, _, _, _, h => (List.eq_nil_iff_forall_not_mem.2 fun x hx => by have := (h x).2 hx; simp at this).symm
  | x :: L, [], _, _, _, _, h => by have := (h x).1 (by simp); simp at this
  | x :: L, y :: M, hL, hM, sL, sM, h => by
    have sL' := List.pairwise_cons.1 sL
    have sM' := List.pairwise_cons.1 sM
    have e : x = y := by
      rcases List.mem_cons.1 ((h x).1 (by simp)) with e | hx
      · exact e
      · rcases List.mem_cons.1 ((h y).2 (by simp)) with e | hy
        · exact e.symm
        · exact absurd (sL'.1 y hy) (sM'.1 x hx).asymm
    subst e
    congr 1
    refine fsorted_unique L M (fun z hz => hL z (by simp [hz])) (fun z hz => hM z (by simp [hz])) sL'.2 sM'.2 fun z => ⟨fun hz => ?_, fun hz => ?_⟩
    · rcases List.mem_cons.1 ((h z).1 (by simp [hz])) with e | hz'
      · subst e; exact absurd (sL'.1 z hz) (FLt.irrefl _)
      · exact hz'
    · rcases List.mem_cons.1 ((h z).2 (by simp [hz])) with e | hz'
      · subst e; exact absurd (sM'.1 z hz) (FLt.irrefl _)
      · exact hz'
theorem RL.unique {a b c d : Int} {L M : List (Int × Int)} (h : RL a b c d L) (k : RL a b c d M) : L = M :=
  fsorted_unique L M (fun x hx => ((h.mem x).1 hx).1) (fun x hx => ((k.mem x).1 hx).1) h.sorted k.sorted fun x => (h.mem x).trans (k.mem x).symm

theorem nodup_three {a b c d : Int} (ha : a ≠ 0) : ∀ (L : List (Int × Int)), L.Nodup → (∀ x ∈ L, RootF a b c d x) → L.length ≤ 3
  | [], _, _ => by simp
  | [_], _, _ => by simp
  | [_, _], _, _ => by simp
  | [_, _, _], _, _ => by simp
  | x :: y :: z :: u :: L, hn, hr => by
    exfalso
    have hx := hr x (by simp); have hy := hr y (by simp); have hz := hr z (by simp); have hu := hr u (by simp)
    simp only [List.nodup_cons, List.mem_cons, not_or] at hn
    obtain ⟨⟨n1, n2, n3, -⟩, ⟨n4, n5, -⟩, ⟨n6, -⟩, -⟩ := hn
    exact cu_three ha hx.2.2 hy.2.2 hz.2.2 hu.2.2 (by have := hx.1; omega) (by have := hy.1; omega) (hx.ne hy n1) (hx.ne hz n2) (hx.ne hu n3) (hy.ne hz n4) (hy.ne hu n5) (hz.ne hu n6)
theorem FSorted.nodup {L : List (Int × Int)} (h : FSorted L) : L.Nodup := h.imp fun {x y} hxy e => by subst e; exact FLt.irrefl _ hxy

theorem pw_insert {x : Int × Int} : ∀ (L : List (Int × Int)) (k : Nat), k ≤ L.length → FSorted L → (∀ j, j < k → FLt (L[j]?.getD (0, 0)) x) → (∀ y ∈ L.drop k, FLt x y) → (1 ≤ x.2) → (∀ y ∈ L, 1 ≤ y.2) → FSorted (L.take k ++ x :: L.drop k)
  | L, 0, _, hs, _, h2, _, _ => List.pairwise_cons.2 ⟨fun y hy => h2 y (by simpa using hy), by simpa [FSorted] using hs⟩
  | [], k + 1, hk, _, _, _, _, _ => by simp at hk
  | y :: L, k + 1, hk, hs, h1, h2, hx, hp => by
    have hs' := List.pairwise_cons.1 hs
    have ih := pw_insert L k (by simpa using hk) hs'.2 (fun j hj => by simpa using h1 (j + 1) (by omega)) (by simpa using h2) hx (fun z hz => hp z (by simp [hz]))
    have hyx : FLt y x := by simpa using h1 0 (by omega)
    show List.Pairwise FLt (y :: (L.take k ++ x :: L.drop k))
    refine List.pairwise_cons.2 ⟨fun z hz => ?_, ih⟩
    rcases List.mem_append.1 hz with hz | hz
    · exact hs'.1 z (List.mem_of_mem_take hz)
    · rcases List.mem_cons.1 hz with rfl | hz
      · exact hyx
      · exact hs'.1 z (List.mem_of_mem_drop hz)

/-- What is in place behind a search for the place of a root x. -/
theorem put_new {a b c d : Int} {x : Int × Int} {L : List (Int × Int)} {k : Nat} (hk : k ≤ L.length) (hs : FSorted L) (hr : ∀ y ∈ L, RootF a b c d y) (hx : RootF a b c d x)
    (h1 : ∀ j, j < k → FLt (L[j]?.getD (0, 0)) x) (h2 : k < L.length → ¬ FLt (L[k]?.getD (0, 0)) x) (h3 : k < L.length → L[k]?.getD (0, 0) ≠ x) : FSorted (L.take k ++ x :: L.drop k) := by
  refine pw_insert L k hk hs h1 (fun y hy => ?_) hx.1 (fun y hy => (hr y hy).1)
  by_cases hkl : k < L.length
  · have e : L.drop k = L[k] :: L.drop (k + 1) := List.drop_eq_getElem_cons hkl
    have e2 : L[k]?.getD (0, 0) = L[k] := by simp [hkl]
    rw [e2] at h2 h3
    have hm : L[k] ∈ L := List.getElem_mem hkl
    have hxk : FLt x L[k] := by
      rcases (hr _ hm).tri hx with h | h | h
      · exact absurd h (h2 hkl)
      · exact absurd h (h3 hkl)
      · exact h
    rw [e] at hy
    rcases List.mem_cons.1 hy with rfl | hy
    · exact hxk
    · have hsd : List.Pairwise FLt (L[k] :: L.drop (k + 1)) := by rw [← e]; exact hs.sublist (List.drop_sublist _ _)
      have hky := (List.pairwise_cons.1 hsd).1 y hy
      exact hxk.trans hky hx.1 (hr _ hm).1 (hr y (List.mem_of_mem_drop hy)).1
  · rw [List.drop_eq_nil_of_le (by omega)] at hy
    simp at hy
theorem put_mem {x y : Int × Int} {L : List (Int × Int)} {k : Nat} : y ∈ L.take k ++ x :: L.drop k ↔ y = x ∨ y ∈ L := by
  rw [List.mem_append, List.mem_cons]
  constructor
  · rintro (h | h | h)
    · exact .inr (List.mem_of_mem_take h)
    · exact .inl h
    · exact .inr (List.mem_of_mem_drop h)
  · rintro (h | h)
    · exact .inr (.inl h)
    · rw [← List.take_append_drop k L] at h
      rcases List.mem_append.1 h with h | h
      · exact .inl h
      · exact .inr (.inr h)

/-- The greatest parts of a root. -/
theorem lastOf_bd {a b c d : Int} (ha : a ≠ 0) (h1 : -1000 ≤ a ∧ a ≤ 1000) (h2 : -1000 ≤ b ∧ b ≤ 1000) (h3 : -1000 ≤ c ∧ c ≤ 1000) (h4 : -1000 ≤ d ∧ d ≤ 1000) : lastOf a b c d ≠ 0 ∧ -1000 ≤ lastOf a b c d ∧ lastOf a b c d ≤ 1000 := by
  unfold lastOf
  split
  · omega
  · split
    · omega
    · split <;> omega
theorem RootF.bd {a b c d : Int} {x : Int × Int} (h : RootF a b c d x) (ha : a ≠ 0) (h1 : -1000 ≤ a ∧ a ≤ 1000) (h2 : -1000 ≤ b ∧ b ≤ 1000) (h3 : -1000 ≤ c ∧ c ≤ 1000) (h4 : -1000 ≤ d ∧ d ≤ 1000) : x.2 ≤ 1000 ∧ -1000 ≤ x.1 ∧ x.1 ≤ 1000 := by
  have d1 := cuVal_den h.2.1 h.2.2
  have e1 := Nat.le_of_dvd (by omega) (Int.natAbs_dvd_natAbs.2 d1)
  by_cases hp : x.1 = 0
  · omega
  · have d2 := cuVal_num ha hp h.2.1 h.2.2
    have l := lastOf_bd ha h1 h2 h3 h4
    have e2 := Nat.le_of_dvd (by omega) (Int.natAbs_dvd_natAbs.2 d2)
    omega

/-- The divisors of a number. -/
def DV (n : Nat) : Nat → List Int
  | 0 => []
  | k + 1 => if n % (k + 1) = 0 then DV n k ++ [((k + 1 : Nat) : Int)] else DV n k
theorem DV_len (n : Nat) : ∀ k, (DV n k).length ≤ k
  | 0 => Nat.le_refl 0
  | k + 1 => by
    have := DV_len n k
    rw [DV]
    split
    · rw [List.length_append]; show (DV n k).length + 1 ≤ k + 1; omega
    · omega
theorem DV_mem (n : Nat) : ∀ k (x : Int), x ∈ DV n k ↔ 1 ≤ x ∧ x ≤ k ∧ n % x.toNat = 0
  | 0, x => by simp [DV]; omega
  | k + 1, x => by
    have ih := DV_mem n k x
    rw [DV]
    split
    · rename_i h
      rw [List.mem_append, ih, List.mem_singleton]
      constructor
      · rintro (h1 | h1)
        · exact ⟨h1.1, by omega, h1.2.2⟩
        · subst h1; exact ⟨by omega, by omega, by simpa using h⟩
      · rintro ⟨h1, h2, h3⟩
        by_cases e : x = ((k + 1 : Nat) : Int)
        · exact .inr e
        · exact .inl ⟨h1, by omega, h3⟩
    · rename_i h
      rw [ih]
      constructor
      · rintro ⟨h1, h2, h3⟩; exact ⟨h1, by omega, h3⟩
      · rintro ⟨h1, h2, h3⟩
        refine ⟨h1, ?_, h3⟩
        by_cases e : x = ((k + 1 : Nat) : Int)
        · subst e; exact absurd (by simpa using h3) h
        · omega
theorem DV_nodup (n : Nat) : ∀ k, (DV n k).Nodup
  | 0 => by simp [DV]
  | k + 1 => by
    have ih := DV_nodup n k
    rw [DV]
    split
    · refine List.nodup_append.2 ⟨ih, by simp, ?_⟩
      intro x hx y hy e
      have := (DV_mem n k x).1 hx
      rw [List.mem_singleton] at hy
      omega
    · exact ih
end Go.Proofs.YtanmkamagdajpaaDoor
