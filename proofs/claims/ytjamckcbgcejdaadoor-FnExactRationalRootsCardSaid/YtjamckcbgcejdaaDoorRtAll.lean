/- The candidates of the program's search for rational roots, in its order (own work). -/
import Derived.Test.YtjamckcbgcejdaaDoorRtTry
import Derived.Test.YtjamckcbgcejdaaDoorCfOut
namespace Go.Proofs.YtjamckcbgcejdaaDoor

def pairC (m n : Int) : List (Int × Int) := [(n, m), (-n, m)]
def rowC (xs : List Int) (m : Int) : List (Int × Int) := xs.flatMap (pairC m)
def allC (xs ys : List Int) : List (Int × Int) := ys.flatMap (rowC xs)
def rts (a b c d : Int) (C : List (Int × Int)) : List (Int × Int) := C.filter fun x => decide (CfRoot a b c d x.1 x.2)
def zr (d : Int) : List (Int × Int) := if d = 0 then [(0, 1)] else []
def cands (xs ys : List Int) (k j s : Nat) : List (Int × Int) := (ys.take k).flatMap (rowC xs) ++ ((xs.take j).flatMap (pairC (ys[k]?.getD 0)) ++ (pairC (ys[k]?.getD 0) (xs[j]?.getD 0)).take s)
/-- The roots that have been found. -/
def RT (a b c d : Int) (xs ys : List Int) (k j s : Nat) : List (Int × Int) := zr d ++ rts a b c d (cands xs ys k j s)

theorem rt_start (a b c d : Int) (xs ys : List Int) : RT a b c d xs ys 0 0 0 = zr d := by simp [RT, cands, rts]
theorem rt_s (a b c d : Int) (xs ys : List Int) (k j s : Nat) (n m : Int) (hm : m = ys[k]?.getD 0) (hn : (s = 0 ∧ n = xs[j]?.getD 0) ∨ (s = 1 ∧ n = -(xs[j]?.getD 0))) :
    RT a b c d xs ys k j (s + 1) = RT a b c d xs ys k j s ++ (if CfRoot a b c d n m then [(n, m)] else []) := by
  have e : cands xs ys k j (s + 1) = cands xs ys k j s ++ [(n, m)] := by
    unfold cands
    rw [← hm]
    rcases hn with ⟨rfl, h⟩ | ⟨rfl, h⟩
    · rw [← h]; simp [pairC]
    · obtain ⟨z, hz⟩ : ∃ z, z = xs[j]?.getD 0 := ⟨_, rfl⟩
      rw [← hz] at h ⊢
      rw [h]; simp [pairC]
  unfold RT
  rw [e, rts, rts, List.filter_append, ← List.append_assoc]
  congr 1
  by_cases h : CfRoot a b c d n m
  · simp [h]
  · simp [h]
theorem take_succ_flat {f : Int → List (Int × Int)} (xs : List Int) (j : Nat) (hj : j < xs.length) : (xs.take (j + 1)).flatMap f = (xs.take j).flatMap f ++ f (xs[j]?.getD 0) := by
  rw [List.take_add_one, List.flatMap_append, List.getElem?_eq_getElem hj]
  simp
theorem rt_j (a b c d : Int) (xs ys : List Int) (k j : Nat) (hj : j < xs.length) : RT a b c d xs ys k j 2 = RT a b c d xs ys k (j + 1) 0 := by
  unfold RT cands
  rw [take_succ_flat xs j hj]
  simp [pairC]
theorem rt_k (a b c d : Int) (xs ys : List Int) (k : Nat) (hk : k < ys.length) : RT a b c d xs ys k xs.length 0 = RT a b c d xs ys (k + 1) 0 0 := by
  unfold RT cands
  rw [take_succ_flat ys k hk]
  simp [rowC]
theorem rt_end (a b c d : Int) (xs ys : List Int) : RT a b c d xs ys ys.length 0 0 = zr d ++ rts a b c d (allC xs ys) := by
  unfold RT cands
  simp [allC]

theorem pair_mem {m n : Int} {x : Int × Int} (h : x ∈ pairC m n) : x.2 = m ∧ (x.1 = n ∨ x.1 = -n) := by
  simp only [pairC, List.mem_cons, List.not_mem_nil, or_false] at h
  rcases h with rfl | rfl
  · exact ⟨rfl, .inl rfl⟩
  · exact ⟨rfl, .inr rfl⟩
theorem row_nodup {xs : List Int} (m : Int) (hx : xs.Nodup) (hp : ∀ x ∈ xs, 1 ≤ x) : (rowC xs m).Nodup := by
  unfold rowC List.Nodup
  rw [List.pairwise_flatMap]
  refine ⟨fun n hn => ?_, ?_⟩
  · have := hp n hn
    simp only [pairC, List.pairwise_cons, List.mem_singleton, List.not_mem_nil, false_implies, implies_true, List.Pairwise.nil, and_true, forall_eq]
    intro e
    have := congrArg Prod.fst e
    simp only at this
    omega
  · refine List.Pairwise.imp_of_mem ?_ hx
    intro n1 n2 h1 h2 hne x hx1 y hy1 e
    have p1 := hp n1 h1
    have p2 := hp n2 h2
    have q1 := pair_mem hx1
    have q2 := pair_mem hy1
    subst e
    omega
theorem all_nodup {xs ys : List Int} (hx : xs.Nodup) (hp : ∀ x ∈ xs, 1 ≤ x) (hy : ys.Nodup) : (allC xs ys).Nodup := by
  unfold allC List.Nodup
  rw [List.pairwise_flatMap]
  refine ⟨fun m _ => row_nodup m hx hp, ?_⟩
  refine List.Pairwise.imp_of_mem ?_ hy
  intro m1 m2 _ _ hne x hx1 y hy1 e
  subst e
  unfold rowC at hx1 hy1
  rw [List.mem_flatMap] at hx1 hy1
  obtain ⟨_, _, h1⟩ := hx1
  obtain ⟨_, _, h2⟩ := hy1
  have := (pair_mem h1).1
  have := (pair_mem h2).1
  omega
theorem all_mem {xs ys : List Int} {x : Int × Int} : x ∈ allC xs ys ↔ x.2 ∈ ys ∧ ∃ n ∈ xs, x.1 = n ∨ x.1 = -n := by
  unfold allC rowC
  constructor
  · intro h
    rw [List.mem_flatMap] at h
    obtain ⟨m, hm, h⟩ := h
    rw [List.mem_flatMap] at h
    obtain ⟨n, hn, h⟩ := h
    have := pair_mem h
    exact ⟨this.1 ▸ hm, n, hn, this.2⟩
  · rintro ⟨h1, n, hn, h⟩
    rw [List.mem_flatMap]
    refine ⟨x.2, h1, ?_⟩
    rw [List.mem_flatMap]
    refine ⟨n, hn, ?_⟩
    simp only [pairC, List.mem_cons, List.not_mem_nil, or_false]
    rcases h with h | h
    · left; exact Prod.ext h rfl
    · right; exact Prod.ext h rfl
theorem RootF.cf {a b c d : Int} {x : Int × Int} (g : CuG a b c d) (h : RootF a b c d x) : CfRoot a b c d x.1 x.2 := by
  have hb := h.bd g.1 g.2.1 g.2.2.1 g.2.2.2.1 g.2.2.2.2
  exact ⟨g, ⟨h.1, by omega, by omega, by omega, h.2.1⟩, h.2.2⟩
theorem DV_in {n : Nat} (hn : 1 ≤ n) {m : Int} (h1 : 1 ≤ m) (h2 : (n : Int) % m = 0) : m ∈ DV n n := by
  obtain ⟨k, hk, e⟩ := DV_has hn h1 h2
  rw [e, List.getElem?_eq_getElem hk]
  exact List.getElem_mem hk

theorem rt_done {a b c d : Int} {N D : Nat} (g : CuG a b c d) (hN : (lastOf a b c d).natAbs = N) (hN1 : 1 ≤ N) (hD : a.natAbs = D) :
    (zr d ++ rts a b c d (allC (DV N N) (DV D D))).Nodup ∧ ∀ x, x ∈ zr d ++ rts a b c d (allC (DV N N) (DV D D)) ↔ RootF a b c d x := by
  have hpos : ∀ x ∈ DV N N, 1 ≤ x := fun x hx => ((DV_mem N N x).1 hx).1
  have hnd : (rts a b c d (allC (DV N N) (DV D D))).Nodup := (all_nodup (DV_nodup N N) hpos (DV_nodup D D)).filter _
  have hne : ∀ x ∈ rts a b c d (allC (DV N N) (DV D D)), x.1 ≠ 0 := by
    intro x hx
    obtain ⟨_, n, hn, h⟩ := all_mem.1 (List.mem_filter.1 hx).1
    have := hpos n hn
    omega
  have hz : ∀ x, x ∈ zr d ↔ RootF a b c d x ∧ x.1 = 0 := by
    intro x
    unfold zr
    by_cases h0 : d = 0
    · rw [if_pos h0, List.mem_singleton]
      have hi := Inv.zero (a := a) (b := b) (c := c) h0
      constructor
      · rintro rfl
        exact ⟨hi.rs.root _ (List.mem_singleton.2 rfl), rfl⟩
      · rintro ⟨h1, h2⟩
        exact List.mem_singleton.1 (hi.has x h1 (.inl h2))
    · rw [if_neg h0]
      constructor
      · intro h; simp at h
      · rintro ⟨h1, h2⟩
        exact (Inv.nil (a := a) (b := b) (c := c) h0).has x h1 (.inl h2)
  refine ⟨?_, fun x => ?_⟩
  · rw [List.nodup_append]
    refine ⟨?_, hnd, fun x hx y hy e => ?_⟩
    · unfold zr; split
      · simp
      · exact List.Pairwise.nil
    · subst e
      exact hne x hy ((hz x).1 hx).2
  · rw [List.mem_append, hz]
    constructor
    · rintro (⟨h, _⟩ | h)
      · exact h
      · exact CfRoot.rootF (of_decide_eq_true (List.mem_filter.1 h).2)
    · intro h
      by_cases h0 : x.1 = 0
      · exact .inl ⟨h, h0⟩
      · right
        refine List.mem_filter.2 ⟨all_mem.2 ⟨?_, ?_⟩, decide_eq_true (h.cf g)⟩
        · exact DV_in (by have := g.1; omega) h.1 (dvd_emod hD (cuVal_den h.2.1 h.2.2))
        · refine ⟨((x.1.natAbs : Nat) : Int), DV_in hN1 (by omega) (dvd_emod hN (Int.natAbs_dvd.2 (cuVal_num g.1 h0 h.2.1 h.2.2))), by omega⟩
end Go.Proofs.YtjamckcbgcejdaaDoor
