/- append onto a row of the call's own, whatever the source; copies of slices. -/
import Derived.Test.YtbgoiflkpefckaaPwToInts
namespace Go.Proofs.Ytbgoiflkpefckaa
open Go.RowKit Go.Joins

/-- One statement 'append(v, src...)': v is owned, the source is read. -/
theorem wpList_append_rd {P : Program} (w : World) {ops : Array Oper} {rest : List Oper} {o : Oper} {a : Act} {Q : Exit → Act → World → Prop} (hgd : o.guard = none) (s x : Operand) (t : TypeId)
    (ho : o.op = .call { callee := .builtin .append, args := #[s, x], argTypes := #[t, t] }) (ht : P.underlying t = some (.slice 3)) (hinfo : (P.info? 3).map (fun i => (i.zero, i.size, i.bytes)) = some (some (.int .i64 0), 1, 8))
    (base : Nat) (v : Value) (xs : List Int) (hs : a.eval s = v) (hown : Own w base v xs) (B : Nat) (A : Option Addr) (m c : Nat) (ys : List Int) (hx : a.eval x = .slice A m c) (hr : Rd w B A m ys)
    (hlen : xs.length + m ≤ 17592186044416) (hbase : base ≤ w.heap.size)
    (h : ∀ A' c' w', Own w' base (.slice A' (xs ++ ys).length c') (xs ++ ys) → w.grownBy w' v.ownBlock → wpList P ops Q rest (a.put o.dst (.slice A' (xs ++ ys).length c')) w') : wpList P ops Q (o :: rest) a w := by
  obtain ⟨i0, hi, hz0, hz1, hz2⟩ := info_parts hinfo
  rcases A with _ | ad
  · have hm : m = 0 := by
      rcases Nat.eq_zero_or_pos m with h0 | h0
      · exact h0
      · obtain ⟨_, _, he, _⟩ := hr.2 h0
        cases he
    subst hm
    have hy : ys = [] := List.eq_nil_of_length_eq_zero hr.1
    subst hy
    refine wpList_plain hgd fun K hK => ?_
    have hrun : (Builtin.append_ #[t, t] o.type #[v, .slice none 0 c]).run P w = .ok v w := by
      rcases hown.2 with ⟨rfl, _⟩ | ⟨g, cap, cur, rfl, _, _, hnc, _⟩
      · simp [Builtin.append_, run_underlying ht, sizeOf, typeInfo, hi, Builtin.lenOf, Builtin.firstCells]
      · simp [Builtin.append_, run_underlying ht, sizeOf, typeInfo, hi, Builtin.lenOf, Builtin.firstCells, hnc, storeCells]
    unfold Oper.wp
    simp [execOp, ho, resolve, invoke, builtin, hs, hx, hrun, Result.andThen]
    obtain ⟨A', c', he, _⟩ := hown.form
    have h3 := h A' c' w (by rw [List.append_nil, ← he]; exact hown) (World.grownBy.refl _ _)
    rw [List.append_nil, ← he] at h3
    exact hK _ _ h3
  · have hcells : ∀ j u, (ys.map (Value.int .i64))[j]? = some u → w.cell? (ad.add j) = some u := by
      intro j u hu
      have hj : j < ys.length := by
        have := (List.getElem?_eq_some_iff.1 hu).1
        simpa using this
      obtain ⟨b, off, he, _, hc⟩ := hr.2 (by have := hr.1; omega)
      injection he with he
      subst he
      rw [Addr.add_lit, hc j (by have := hr.1; omega), ← hu, List.getElem?_map, List.getElem?_eq_getElem hj]
      rfl
    refine wpList_append_own w hgd s x t ho base 3 i0 (.int .i64 0) 1 8 ht hi hz0 hz1 hz2 rfl (by decide) v xs.length (xs.map (Value.int .i64)) hs hown ad m c (ys.map (Value.int .i64)) hx (by rw [List.length_map, hr.1]; omega) hcells
      (ints_oneCell _ _) (by unfold maxLen; omega) (by omega) hbase fun v' w' h1 h2 _ => ?_
    have h4 : Own w' base v' (xs ++ ys) := by
      unfold Own
      rw [List.length_append, List.map_append, hr.1]
      exact h1
    obtain ⟨A', c', rfl, _⟩ := h4.form
    exact h A' c' w' h4 h2

set_option maxHeartbeats 400000 in
theorem l1Own_any (A : Option Addr) (n c B : Nat) (xs : List Int) (w : World) (hn : n ≤ 4398046511104) (h : Rd w B A n xs) :
    Calls Try.prog 76 #[.slice A n c] w (GivesOwn w xs) := by
  have h0 : Own (w.alloc (.cells #[] 3)) w.heap.size (.slice (some ⟨w.heap.size, 0, none⟩) 0 0) [] := World.ownsRow_lit w #[] 0 (Nat.le_refl _) (by unfold maxLen; omega) rfl
  have h1 := below_alloc1 w (.cells #[] 3)
  go_enter Try.func76, Try.ntmps76
  go_wp2_with (at_builtin; refine wpList_append_rd _ rfl _ _ 36 rfl Try.underlying36 Try.info3 w.heap.size _ [] rfl h0 _ _ _ _ xs rfl (h.alloc _) ?c1 ?c2 ?_)
  case c1 => simp; omega
  case c2 => simp
  intro A' c' w' hown hg
  have hb : Below w.heap.size w w' := h1.grown hg (by simp) (fun k hk => by simp [Value.ownBlock] at hk; omega)
  clear h0 h1 hg h
  go_wp2
  go_ret
  exact ⟨A', c', rfl, hown, hb⟩
end Go.Proofs.Ytbgoiflkpefckaa
