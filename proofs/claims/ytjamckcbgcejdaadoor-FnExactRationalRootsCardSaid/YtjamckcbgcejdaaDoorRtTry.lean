/- The trials of the search for rational roots: what has been tried, what the list has (own work). -/
import Derived.Test.YtjamckcbgcejdaaDoorRtList
namespace Go.Proofs.YtjamckcbgcejdaaDoor
/-- What has been tried: the first i of the numerators; of the next one the first j of the denominators; of the next one the first s signs. -/
def DoneI (xs : List Int) (i : Nat) (n : Int) : Prop := ∃ k, k < i ∧ ((n.natAbs : Nat) : Int) = xs[k]?.getD 0
def DoneJ (xs ys : List Int) (i j : Nat) (n m : Int) : Prop := DoneI xs i n ∨ (((n.natAbs : Nat) : Int) = xs[i]?.getD 0 ∧ ∃ k, k < j ∧ m = ys[k]?.getD 0)
def DoneS (xs ys : List Int) (i j s : Nat) (n m : Int) : Prop := DoneJ xs ys i j n m ∨ (m = ys[j]?.getD 0 ∧ ((1 ≤ s ∧ n = xs[i]?.getD 0) ∨ (2 ≤ s ∧ n = -(xs[i]?.getD 0))))
/-- A list that has all the roots which have been tried. -/
structure Inv (a b c d : Int) (Q : Int → Int → Prop) (L : List (Int × Int)) : Prop where
  rs : RS a b c d L
  has : ∀ x, RootF a b c d x → (x.1 = 0 ∨ Q x.1 x.2) → x ∈ L
theorem Inv.imp {a b c d : Int} {Q R : Int → Int → Prop} {L : List (Int × Int)} (h : Inv a b c d Q L) (hi : ∀ x, RootF a b c d x → R x.1 x.2 → Q x.1 x.2) : Inv a b c d R L :=
  ⟨h.rs, fun x hx hr => h.has x hx (hr.imp id (hi x hx))⟩
theorem Inv.zero {a b c d : Int} (hd : d = 0) : Inv a b c d (fun _ _ => False) [(0, 1)] := by
  have hr : RootF a b c d (0, 1) := ⟨by decide, by decide, by subst hd; simp [cuVal]⟩
  refine ⟨⟨by simp [FSorted], fun x hx => by rw [List.mem_singleton] at hx; subst hx; exact hr⟩, fun x hx h => ?_⟩
  rcases h with h | h
  · have := low_eq hx.1 hx.2.1 hr.1 hr.2.1 (by rw [h]; simp)
    rw [this]; simp
  · exact h.elim
theorem Inv.nil {a b c d : Int} (hd : d ≠ 0) : Inv a b c d (fun _ _ => False) [] := by
  refine ⟨⟨List.Pairwise.nil, fun x hx => by simp at hx⟩, fun x hx h => ?_⟩
  rcases h with h | h
  · have h1 := hx.2.2
    have h2 := hx.1
    rw [h] at h1
    have h3 : d * x.2 * x.2 * x.2 = 0 := by unfold cuVal at h1; grind
    rcases Int.mul_eq_zero.1 h3 with h3 | h3
    · rcases Int.mul_eq_zero.1 h3 with h3 | h3
      · rcases Int.mul_eq_zero.1 h3 with h3 | h3
        · exact absurd h3 hd
        · omega
      · omega
    · omega
  · exact h.elim
/-- One trial. -/
theorem Inv.miss {a b c d n m : Int} {Q : Int → Int → Prop} {L : List (Int × Int)} (h : Inv a b c d Q L) (hv : cuVal a b c d n m ≠ 0) : Inv a b c d (fun u v => Q u v ∨ (u = n ∧ v = m)) L :=
  ⟨h.rs, fun x hx hr => by
    rcases hr with hr | hr | ⟨e1, e2⟩
    · exact h.has x hx (.inl hr)
    · exact h.has x hx (.inr hr)
    · exact absurd (by rw [← e1, ← e2]; exact hx.2.2) hv⟩
theorem low_self {n m : Int} (hm : 0 < m) (hg : Nat.gcd n.natAbs m.natAbs = 1) : lowP n m = n ∧ lowQ n m = m := by
  have hs : lowS n m = 1 := by unfold lowS; rw [if_neg (by omega), hg]; rfl
  have h1 := lowP_mul (n := n) (d := m)
  have h2 := lowQ_mul (n := n) (d := m)
  rw [hs] at h1 h2
  omega
theorem root_low {a b c d n m : Int} (hm : 0 < m) (hv : cuVal a b c d n m = 0) : RootF a b c d (lowP n m, lowQ n m) := by
  refine ⟨lowQ_pos (by omega), low_coprime (by omega), cuVal_low (lowS_ne (n := n) (show m ≠ 0 by omega)) ?_⟩
  rw [lowP_mul, lowQ_mul]
  exact hv
theorem Inv.hit {a b c d n m : Int} {Q : Int → Int → Prop} {L M : List (Int × Int)} (h : Inv a b c d Q L) (hm : 0 < m) (hM : RS a b c d M) (hmem : ∀ y, y ∈ M ↔ y = (lowP n m, lowQ n m) ∨ y ∈ L) : Inv a b c d (fun u v => Q u v ∨ (u = n ∧ v = m)) M :=
  ⟨hM, fun x hx hr => (hmem x).2 (by
    rcases hr with hr | hr | ⟨e1, e2⟩
    · exact .inr (h.has x hx (.inl hr))
    · exact .inr (h.has x hx (.inr hr))
    · left
      have hl := low_self (n := n) (m := m) hm (by rw [← e1, ← e2]; exact hx.2.1)
      exact Prod.ext (by rw [e1]; exact hl.1.symm) (by rw [e2]; exact hl.2.symm))⟩
theorem DV_has {n : Nat} (hn : 1 ≤ n) {m : Int} (h1 : 1 ≤ m) (h2 : (n : Int) % m = 0) : ∃ k, k < (DV n n).length ∧ m = (DV n n)[k]?.getD 0 := by
  have hd : m ∣ (n : Int) := Int.dvd_of_emod_eq_zero h2
  have hle := Int.le_of_dvd (by omega) hd
  have hmem : m ∈ DV n n := (DV_mem n n m).2 ⟨h1, hle, by
    have := Int.natAbs_dvd_natAbs.2 hd
    rw [Int.natAbs_natCast] at this
    rw [show m.toNat = m.natAbs by omega]
    exact Nat.mod_eq_zero_of_dvd this⟩
  obtain ⟨k, hk, e⟩ := List.getElem_of_mem hmem
  exact ⟨k, hk, by rw [List.getElem?_eq_getElem hk, e]; rfl⟩
theorem dvd_emod {n : Nat} {z m : Int} (hz : z.natAbs = n) (h : m ∣ z) : (n : Int) % m = 0 := by
  refine Int.emod_eq_zero_of_dvd ?_
  rw [← hz]
  exact Int.dvd_natAbs.2 h
theorem DV_pos {n k : Nat} (hk : k < (DV n n).length) : 1 ≤ (DV n n)[k]?.getD 0 ∧ (DV n n)[k]?.getD 0 ≤ n := by
  have hm : (DV n n)[k]?.getD 0 ∈ DV n n := by rw [List.getElem?_eq_getElem hk]; exact List.getElem_mem hk
  have := (DV_mem n n _).1 hm
  exact ⟨this.1, this.2.1⟩
theorem done_j0 {xs ys : List Int} {i : Nat} {n m : Int} (h : DoneJ xs ys i 0 n m) : DoneI xs i n := by
  rcases h with h | ⟨_, k, hk, _⟩
  · exact h
  · omega
theorem done_s0 {xs ys : List Int} {i j : Nat} {n m : Int} (h : DoneS xs ys i j 0 n m) : DoneJ xs ys i j n m := by
  rcases h with h | ⟨_, ⟨h, _⟩ | ⟨h, _⟩⟩
  · exact h
  · omega
  · omega
theorem done_s1 {xs ys : List Int} {i j : Nat} {n m : Int} (h : DoneS xs ys i j 1 n m) : DoneS xs ys i j 0 n m ∨ (n = xs[i]?.getD 0 ∧ m = ys[j]?.getD 0) := by
  rcases h with h | ⟨e, ⟨_, h⟩ | ⟨h, _⟩⟩
  · exact .inl (.inl h)
  · exact .inr ⟨h, e⟩
  · omega
theorem done_s2 {xs ys : List Int} {i j : Nat} {n m : Int} (h : DoneS xs ys i j 2 n m) : DoneS xs ys i j 1 n m ∨ (n = -(xs[i]?.getD 0) ∧ m = ys[j]?.getD 0) := by
  rcases h with h | ⟨e, ⟨_, h⟩ | ⟨_, h⟩⟩
  · exact .inl (.inl h)
  · exact .inl (.inr ⟨e, .inl ⟨by omega, h⟩⟩)
  · exact .inr ⟨h, e⟩
theorem done_next_j {xs ys : List Int} {i j : Nat} {n m : Int} (h : DoneJ xs ys i (j + 1) n m) : DoneS xs ys i j 2 n m := by
  rcases h with h | ⟨e, k, hk, hm⟩
  · exact .inl (.inl h)
  · by_cases hkj : k < j
    · exact .inl (.inr ⟨e, k, hkj, hm⟩)
    · obtain rfl : k = j := by omega
      refine .inr ⟨hm, ?_⟩
      by_cases hn : 0 ≤ n
      · left; exact ⟨by omega, by omega⟩
      · right; exact ⟨by omega, by omega⟩
theorem done_next_i {xs ys : List Int} {i j : Nat} {n m : Int} (h : DoneI xs (i + 1) n) (hm : ∃ k, k < j ∧ m = ys[k]?.getD 0) : DoneJ xs ys i j n m := by
  obtain ⟨k, hk, e⟩ := h
  by_cases hki : k < i
  · exact .inl ⟨k, hki, e⟩
  · obtain rfl : k = i := by omega
    exact .inr ⟨e, hm⟩
theorem done_all {a b c d : Int} {M L : List (Int × Int)} {N : Nat} (ha : a ≠ 0) (hN : (lastOf a b c d).natAbs = N) (hN1 : 1 ≤ N) (hM : RL a b c d M) (h : Inv a b c d (fun n _ => DoneI (DV N N) (DV N N).length n) L) : L = M := by
  refine RL.unique (h.rs.rl fun x hx => h.has x hx ?_) hM
  by_cases h0 : x.1 = 0
  · exact .inl h0
  · right
    have hd := cuVal_num ha h0 hx.2.1 hx.2.2
    obtain ⟨k, hk, e⟩ := DV_has (n := N) hN1 (m := ((x.1.natAbs : Nat) : Int)) (by omega) (dvd_emod hN (Int.natAbs_dvd.2 hd))
    exact ⟨k, hk, e⟩
theorem den_has {a b c d : Int} {x : Int × Int} {D : Nat} (ha : a ≠ 0) (hD : a.natAbs = D) (hx : RootF a b c d x) : ∃ k, k < (DV D D).length ∧ x.2 = (DV D D)[k]?.getD 0 :=
  DV_has (by omega) hx.1 (dvd_emod hD (cuVal_den hx.2.1 hx.2.2))
end Go.Proofs.YtjamckcbgcejdaaDoor
