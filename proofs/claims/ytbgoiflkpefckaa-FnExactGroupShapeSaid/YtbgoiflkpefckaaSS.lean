/- Slices of slices of ints: owned, read, appended to, marked. -/
import Derived.Test.YtbgoiflkpefckaaMem
namespace Go.Proofs.Ytbgoiflkpefckaa
open Go.RowKit Go.Joins

/-- v owns a row of slices, each of which owns its ints; all blocks from base on, no two of them one. -/
structure SS (w : World) (base : Nat) (v : Value) (L : List (List Int)) (vs : List Value) : Prop where
  len : vs.length = L.length
  outer : w.ownsRow base 36 1 v L.length vs
  inner : ∀ j : Nat, j < L.length → Own w base (vs[j]?.getD undef) (L[j]?.getD [])
  apart : ∀ i j : Nat, i < j → j < L.length → ∀ g, (vs[i]?.getD undef).ownBlock = some g → (vs[j]?.getD undef).ownBlock ≠ some g

theorem SS.nil (w : World) (base : Nat) : SS w base (.slice none 0 0) [] [] := ⟨rfl, World.ownsRow_nil w base 36 1, fun j hj => by simp at hj, fun i j _ hj => by simp at hj⟩

theorem outer_inner {w : World} {base base' n : Nat} {v u : Value} {vs : List Value} {xs : List Int} (h : w.ownsRow base 36 1 v n vs) (h' : Own w base' u xs) : v.ownBlock = none ∨ v.ownBlock ≠ u.ownBlock := by
  rcases h.2 with ⟨rfl, _⟩ | ⟨g, cap, cur, rfl, _, hh, _⟩
  · exact .inl rfl
  · refine .inr fun e => ?_
    rcases h'.2 with ⟨rfl, _⟩ | ⟨g', cap', cur', rfl, _, hh', _⟩
    · simp [Value.ownBlock] at e
    · have e2 : g = g' := by simpa [Value.ownBlock] using e
      subst e2
      rw [hh] at hh'
      injection hh' with hh'
      injection hh' with _ hh'
      exact absurd hh' (by decide)
theorem inner_outer {w : World} {base base' n : Nat} {v u : Value} {vs : List Value} {xs : List Int} (h : w.ownsRow base 36 1 v n vs) (h' : Own w base' u xs) : u.ownBlock = none ∨ u.ownBlock ≠ v.ownBlock := by
  rcases hu : u.ownBlock with _ | g
  · exact .inl rfl
  · refine .inr fun e => ?_
    rcases outer_inner h h' with h1 | h1
    · rw [h1] at e; cases e
    · exact h1 (by rw [hu, e])

theorem SS.kept {w w' : World} {base : Nat} {v : Value} {L : List (List Int)} {vs : List Value} (h : SS w base v L vs) (hb : Below w.heap.size w w') : SS w' base v L vs := by
  have hg : w.grownBy w' none := ⟨hb.os, hb.tape, hb.output, hb.size, fun i hi _ => hb.block i hi⟩
  exact ⟨h.len, World.ownsRow.kept h.outer hg (by cases v.ownBlock <;> simp), fun j hj => (h.inner j hj).kept hb, h.apart⟩

theorem getD_snoc_lt {α : Type} {l : List α} {x d : α} {j : Nat} (h : j < l.length) : (l ++ [x])[j]?.getD d = l[j]?.getD d := by rw [List.getElem?_append_left h]
theorem getD_snoc_eq {α : Type} {l : List α} {x d : α} : (l ++ [x])[l.length]?.getD d = x := by simp

/-- One more row. -/
theorem SS.push {w w' : World} {base : Nat} {v v' u : Value} {L : List (List Int)} {vs : List Value} {xs : List Int} (h : SS w base v L vs) (hu : Own w base u xs)
    (hnew : ∀ j : Nat, j < L.length → ∀ g, (vs[j]?.getD undef).ownBlock = some g → u.ownBlock ≠ some g) (hg : w.grownBy w' v.ownBlock) (ho : w'.ownsRow base 36 1 v' (L.length + 1) (vs ++ [u])) :
    SS w' base v' (L ++ [xs]) (vs ++ [u]) := by
  refine ⟨by simp [h.len], by rw [List.length_append]; exact ho, fun j hj => ?_, fun i j hij hj g hgi => ?_⟩
  · rw [List.length_append] at hj
    have hj' : j < L.length + 1 := hj
    by_cases e : j = L.length
    · subst e
      rw [getD_snoc_eq, ← h.len, getD_snoc_eq]
      exact World.ownsRow.kept hu hg (inner_outer h.outer hu)
    · rw [getD_snoc_lt (by rw [h.len]; omega), getD_snoc_lt (by omega)]
      have hi := h.inner j (by omega)
      exact World.ownsRow.kept hi hg (inner_outer h.outer hi)
  · rw [List.length_append] at hj
    have hj' : j < L.length + 1 := hj
    rw [getD_snoc_lt (by rw [h.len]; omega)] at hgi
    by_cases e : j = L.length
    · subst e
      rw [← h.len, getD_snoc_eq]
      exact hnew i (by omega) g hgi
    · rw [getD_snoc_lt (by rw [h.len]; omega)]
      exact h.apart i j hij (by omega) g hgi

/-- One row has been written. -/
theorem SS.set {w w' : World} {base : Nat} {v : Value} {L : List (List Int)} {vs : List Value} {ys : List Int} (h : SS w base v L vs) (i : Nat) (hi : i < L.length) (hg : w.grownBy w' (vs[i]?.getD undef).ownBlock) (ho : Own w' base (vs[i]?.getD undef) ys) :
    SS w' base v (L.set i ys) vs := by
  refine ⟨by simp [h.len], by rw [List.length_set]; exact World.ownsRow.kept h.outer hg (outer_inner h.outer (h.inner i hi)), fun j hj => ?_, fun a b hab hb => h.apart a b hab (by simpa using hb)⟩
  rw [List.length_set] at hj
  by_cases e : i = j
  · subst e
    rw [List.getElem?_set_self hi]
    exact ho
  · rw [List.getElem?_set_ne e]
    have hin := h.inner j hj
    refine World.ownsRow.kept hin hg ?_
    rcases hu : (vs[j]?.getD undef).ownBlock with _ | g
    · exact .inl rfl
    · refine .inr fun e2 => ?_
      by_cases hlt : i < j
      · exact h.apart i j hlt hj g e2.symm hu
      · exact h.apart j i (by omega) hi g hu e2.symm

/-- The slice '.slice A n c' reads as the rows L, all in blocks below B. -/
def RdSS (w : World) (B : Nat) (A : Option Addr) (n : Nat) (L : List (List Int)) : Prop :=
  L.length = n ∧ (0 < n → ∃ b o, A = some ⟨b, o, none⟩ ∧ b < B ∧ ∀ k, k < n → ∃ A' c', w.cell? ⟨b, o + k, none⟩ = some (.slice A' (L[k]?.getD []).length c') ∧ Rd w B A' (L[k]?.getD []).length (L[k]?.getD []))

theorem RdSS.below {w w' : World} {B : Nat} {A : Option Addr} {n : Nat} {L : List (List Int)} (h : RdSS w B A n L) (hb : Below B w w') : RdSS w' B A n L := by
  refine ⟨h.1, fun hn => ?_⟩
  obtain ⟨b, o, rfl, hB, hc⟩ := h.2 hn
  refine ⟨b, o, rfl, hB, fun k hk => ?_⟩
  obtain ⟨A', c', h1, h2⟩ := hc k hk
  exact ⟨A', c', (hb.cell (p := ⟨b, o + k, none⟩) hB).trans h1, h2.below hb⟩
theorem RdSS.more {w : World} {B B' : Nat} {A : Option Addr} {n : Nat} {L : List (List Int)} (h : RdSS w B A n L) (hB : B ≤ B') : RdSS w B' A n L := by
  refine ⟨h.1, fun hn => ?_⟩
  obtain ⟨b, o, rfl, hb, hc⟩ := h.2 hn
  refine ⟨b, o, rfl, by omega, fun k hk => ?_⟩
  obtain ⟨A', c', h1, h2⟩ := hc k hk
  exact ⟨A', c', h1, h2.more hB⟩
theorem RdSS.kept {w w' : World} {A : Option Addr} {n : Nat} {L : List (List Int)} (h : RdSS w w.heap.size A n L) (hb : Below w.heap.size w w') : RdSS w' w'.heap.size A n L := (h.below hb).more hb.size
theorem SS.rd {w : World} {base : Nat} {A : Option Addr} {c : Nat} {L : List (List Int)} {vs : List Value} (h : SS w base (.slice A L.length c) L vs) : RdSS w w.heap.size A L.length L := by
  refine ⟨rfl, fun hn => ?_⟩
  obtain ⟨g, cap, hv⟩ := ownsRow_form h.outer (by omega)
  simp only [Value.slice.injEq] at hv
  obtain ⟨rfl, _, rfl⟩ := hv
  refine ⟨g, 0, rfl, (h.outer.lt g rfl).2, fun k hk => ?_⟩
  obtain ⟨A', c', e, hr⟩ := (h.inner k hk).form
  refine ⟨A', c', ?_, hr⟩
  rw [Nat.zero_add, h.outer.cellAt k (by omega), ← e]
  have hk2 : k < vs.length := by rw [h.len]; exact hk
  simp [List.getElem?_eq_getElem hk2]

/-- How many ints there are. -/
def tot : List (List Int) → Nat
  | [] => 0
  | l :: L => l.length + tot L
/-- The rows marked from k on. -/
def marksSS (k : Int) : List (List Int) → List (List Int)
  | [] => []
  | l :: L => marks k l.length :: marksSS (k + l.length) L
theorem marksSS_length : ∀ (L : List (List Int)) (k : Int), (marksSS k L).length = L.length
  | [], _ => rfl
  | l :: L, k => by rw [marksSS, List.length_cons, List.length_cons, marksSS_length L]
theorem tot_take_succ : ∀ (L : List (List Int)) (j : Nat), j < L.length → tot (L.take (j + 1)) = tot (L.take j) + (L[j]?.getD []).length
  | l :: L, 0, _ => by simp [tot]
  | l :: L, j + 1, h => by
    have := tot_take_succ L j (by simpa using h)
    simp only [List.take_succ_cons, tot, List.getElem?_cons_succ] at this ⊢
    omega
theorem tot_take_le : ∀ (L : List (List Int)) (j : Nat), tot (L.take j) ≤ tot L
  | [], j => by simp [tot]
  | l :: L, 0 => by simp [tot]
  | l :: L, j + 1 => by
    have := tot_take_le L j
    simp only [List.take_succ_cons, tot]
    omega
theorem marksSS_at : ∀ (L : List (List Int)) (k : Int) (j : Nat), j < L.length → (marksSS k L)[j]?.getD [] = marks (k + tot (L.take j)) (L[j]?.getD []).length
  | l :: L, k, 0, _ => by simp [marksSS, tot]
  | l :: L, k, j + 1, h => by
    rw [marksSS, List.getElem?_cons_succ, marksSS_at L (k + l.length) j (by simpa using h)]
    simp only [List.take_succ_cons, tot, List.getElem?_cons_succ]
    rw [show k + (l.length : Int) + (tot (L.take j) : Int) = k + ((l.length + tot (L.take j) : Nat) : Int) from by omega]
/-- While the rows are being marked. -/
def mkSS (k : Int) (L : List (List Int)) (j : Nat) : List (List Int) := (marksSS k L).take j ++ L.drop j
theorem mkSS_zero (k : Int) (L : List (List Int)) : mkSS k L 0 = L := by simp [mkSS]
theorem mkSS_all (k : Int) (L : List (List Int)) : mkSS k L L.length = marksSS k L := by
  unfold mkSS
  rw [List.drop_length, List.append_nil, List.take_of_length_le (by rw [marksSS_length]; exact Nat.le_refl _)]
theorem mkSS_length (k : Int) (L : List (List Int)) (j : Nat) (h : j ≤ L.length) : (mkSS k L j).length = L.length := by
  unfold mkSS
  rw [List.length_append, List.length_take, List.length_drop, marksSS_length]
  omega
theorem mkSS_at (k : Int) (L : List (List Int)) (j : Nat) (h : j < L.length) : (mkSS k L j)[j]?.getD [] = L[j]?.getD [] := by
  unfold mkSS
  rw [List.getElem?_append_right (by simp; omega)]
  simp [marksSS_length, Nat.min_eq_left (Nat.le_of_lt h)]
theorem mkSS_set (k : Int) (L : List (List Int)) (j : Nat) (h : j < L.length) : (mkSS k L j).set j (marks (k + tot (L.take j)) (L[j]?.getD []).length) = mkSS k L (j + 1) := by
  have hm : j < (marksSS k L).length := by rw [marksSS_length]; exact h
  have e := marksSS_at L k j h
  unfold mkSS
  rw [← e, List.set_append_right _ _ (by simp; omega), List.take_succ_eq_append_getElem hm, List.append_assoc]
  congr 1
  have h2 : j - (List.take j (marksSS k L)).length = 0 := by simp; omega
  rw [h2, List.drop_eq_getElem_cons h, List.set_cons_zero, List.getElem?_eq_getElem hm]
  rfl
end Go.Proofs.Ytbgoiflkpefckaa
