/- Lists of rational roots: they exist, are put in place one by one, are what a sort makes of them (own work). -/
import Derived.Test.YtjamckcbgcejdaaDoorRtMath
namespace Go.Proofs.YtjamckcbgcejdaaDoor
theorem place_exists (x : Int × Int) : ∀ L : List (Int × Int), ∃ k, k ≤ L.length ∧ (∀ j, j < k → FLt (L[j]?.getD (0, 0)) x) ∧ (k < L.length → ¬ FLt (L[k]?.getD (0, 0)) x)
  | [] => ⟨0, by simp, fun j hj => by omega, fun h => by simp at h⟩
  | y :: L => by
    by_cases h : FLt y x
    · obtain ⟨k, h1, h2, h3⟩ := place_exists x L
      refine ⟨k + 1, by simpa using h1, fun j hj => ?_, fun hk => ?_⟩
      · rcases j with _ | j
        · simpa using h
        · simpa using h2 j (by omega)
      · simpa using h3 (by simpa using hk)
    · exact ⟨0, by simp, fun j hj => by omega, fun _ => by simpa using h⟩
/-- Part of the roots: sorted, all of them roots. -/
structure RS (a b c d : Int) (L : List (Int × Int)) : Prop where
  sorted : FSorted L
  root : ∀ x ∈ L, RootF a b c d x
theorem RS.len {a b c d : Int} {L : List (Int × Int)} (h : RS a b c d L) (ha : a ≠ 0) : L.length ≤ 3 := nodup_three ha L h.sorted.nodup h.root
theorem RS.put {a b c d : Int} {L : List (Int × Int)} {x : Int × Int} {k : Nat} (h : RS a b c d L) (hx : RootF a b c d x) (hk : k ≤ L.length)
    (h1 : ∀ j, j < k → FLt (L[j]?.getD (0, 0)) x) (h2 : k < L.length → ¬ FLt (L[k]?.getD (0, 0)) x) (h3 : k < L.length → L[k]?.getD (0, 0) ≠ x) : RS a b c d (L.take k ++ x :: L.drop k) :=
  ⟨put_new hk h.sorted h.root hx h1 h2 h3, fun y hy => (put_mem.1 hy).elim (fun e => e ▸ hx) (h.root y)⟩
theorem rs_add {a b c d : Int} {L : List (Int × Int)} {x : Int × Int} (h : RS a b c d L) (hx : RootF a b c d x) : ∃ M, RS a b c d M ∧ ∀ y, y ∈ M ↔ y = x ∨ y ∈ L := by
  obtain ⟨k, h1, h2, h3⟩ := place_exists x L
  by_cases e : k < L.length ∧ L[k]?.getD (0, 0) = x
  · refine ⟨L, h, fun y => ⟨.inr, fun hy => ?_⟩⟩
    rcases hy with rfl | hy
    · have : L[k] ∈ L := List.getElem_mem e.1
      rw [← e.2]
      simp [e.1]
    · exact hy
  · exact ⟨_, h.put hx h1 h2 h3 (fun hk hh => e ⟨hk, hh⟩), fun y => put_mem⟩
theorem rs_cand {a b c d : Int} : ∀ C : List (Int × Int), ∃ L, RS a b c d L ∧ ∀ x ∈ C, RootF a b c d x → x ∈ L
  | [] => ⟨[], ⟨List.Pairwise.nil, fun x hx => by simp at hx⟩, fun x hx => by simp at hx⟩
  | x :: C => by
    obtain ⟨L, h1, h2⟩ := rs_cand C
    by_cases hx : RootF a b c d x
    · obtain ⟨M, h3, h4⟩ := rs_add h1 hx
      refine ⟨M, h3, fun y hy hr => (h4 y).2 ?_⟩
      rcases List.mem_cons.1 hy with rfl | hy
      · exact .inl rfl
      · exact .inr (h2 y hy hr)
    · refine ⟨L, h1, fun y hy hr => ?_⟩
      rcases List.mem_cons.1 hy with rfl | hy
      · exact absurd hr hx
      · exact h2 y hy hr
theorem rl_exists {a b c d : Int} (ha : a ≠ 0) (h1 : -1000 ≤ a ∧ a ≤ 1000) (h2 : -1000 ≤ b ∧ b ≤ 1000) (h3 : -1000 ≤ c ∧ c ≤ 1000) (h4 : -1000 ≤ d ∧ d ≤ 1000) : ∃ L, RL a b c d L := by
  obtain ⟨L, hL, hc⟩ := rs_cand (a := a) (b := b) (c := c) (d := d) ((List.range 2001).flatMap fun (i : Nat) => (List.range 1001).map fun (j : Nat) => ((i : Int) - 1000, (j : Int)))
  refine ⟨L, hL.sorted, fun x => ⟨hL.root x, fun hx => hc x ?_ hx⟩⟩
  have hb := hx.bd ha h1 h2 h3 h4
  have hq := hx.1
  rw [List.mem_flatMap]
  refine ⟨(x.1 + 1000).toNat, List.mem_range.2 (by omega), List.mem_map.2 ⟨x.2.toNat, List.mem_range.2 (by omega), ?_⟩⟩
  refine Prod.ext ?_ ?_
  · show (((x.1 + 1000).toNat : Nat) : Int) - 1000 = x.1; omega
  · show ((x.2.toNat : Nat) : Int) = x.2; omega
theorem RS.rl {a b c d : Int} {L : List (Int × Int)} (h : RS a b c d L) (hc : ∀ x, RootF a b c d x → x ∈ L) : RL a b c d L := ⟨h.sorted, fun x => ⟨h.root x, hc x⟩⟩
theorem RL.len {a b c d : Int} {L : List (Int × Int)} (h : RL a b c d L) (ha : a ≠ 0) : L.length ≤ 3 := RS.len ⟨h.sorted, fun x hx => (h.mem x).1 hx⟩ ha
/-- A value at n / m is that in lowest terms, times a cube. -/
theorem cuVal_scale (a b c d p q s : Int) : cuVal a b c d (p * s) (q * s) = s * s * s * cuVal a b c d p q := by unfold cuVal; grind
theorem cuVal_low {a b c d p q s : Int} (hs : s ≠ 0) (h : cuVal a b c d (p * s) (q * s) = 0) : cuVal a b c d p q = 0 := by
  rw [cuVal_scale] at h
  rcases Int.mul_eq_zero.1 h with h | h
  · rcases Int.mul_eq_zero.1 h with h | h
    · rcases Int.mul_eq_zero.1 h with h | h
      · exact absurd h hs
      · exact absurd h hs
    · exact absurd h hs
  · exact h
/-- A sorted permutation of roots that are all different is their list. -/
theorem perm_rl {a b c d : Int} {L M : List (Int × Int)} (hM : RL a b c d M) (hmem : ∀ x, x ∈ L ↔ RootF a b c d x) (hn : L.Nodup) (hs : L.Pairwise fun x y => ¬ FLt y x) : L = M := by
  refine RL.unique ⟨?_, hmem⟩ hM
  refine List.Pairwise.imp_of_mem ?_ (List.Pairwise.and hs hn)
  intro x y hx hy hxy
  rcases ((hmem x).1 hx).tri ((hmem y).1 hy) with h | h | h
  · exact h
  · exact absurd h hxy.2
  · exact absurd h hxy.1
end Go.Proofs.YtjamckcbgcejdaaDoor
