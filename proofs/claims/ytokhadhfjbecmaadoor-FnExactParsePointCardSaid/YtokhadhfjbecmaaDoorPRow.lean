/- Rows of points: read, owned, appended to (own work). -/
import Derived.Test.YtokhadhfjbecmaaDoorRsAppend
import Derived.Test.YtokhadhfjbecmaaDoorPtBox
import Derived.Deep.AppendLies
namespace Go.Proofs.YtokhadhfjbecmaaDoor
open Go.RowKit Go.Joins

/-- A row's numbers, one behind the other. -/
def pflat : List P3 → List Int
  | [] => []
  | x :: L => x.x :: x.y :: x.e :: pflat L
theorem pflat_len : ∀ L : List P3, (pflat L).length = L.length * 3
  | [] => rfl
  | x :: L => by simp only [pflat, List.length_cons]; rw [pflat_len L]; omega
theorem pflat_app : ∀ (L M : List P3), pflat (L ++ M) = pflat L ++ pflat M
  | [], _ => rfl
  | x :: L, M => by simp only [pflat, List.cons_append]; rw [pflat_app L M]
theorem pflat_at : ∀ (L : List P3) (k : Nat), k < L.length → (pflat L)[3 * k]?.getD 0 = (L[k]?.getD .zero).x ∧ (pflat L)[3 * k + 1]?.getD 0 = (L[k]?.getD .zero).y ∧ (pflat L)[3 * k + 2]?.getD 0 = (L[k]?.getD .zero).e
  | [], k, h => by simp at h
  | x :: L, 0, _ => by simp [pflat]
  | x :: L, k + 1, h => by
    have ih := pflat_at L k (by simpa using h)
    have e1 : 3 * (k + 1) = 3 * k + 1 + 1 + 1 := by omega
    rw [e1]
    simpa [pflat] using ih
/-- The slice '.slice A n c' reads as the points L, in blocks below B. -/
def RdP (w : World) (B : Nat) (A : Option Addr) (n : Nat) (L : List P3) : Prop :=
  L.length = n ∧ (0 < n → ∃ b o, A = some ⟨b, o, none⟩ ∧ b < B ∧ ∀ j, j < 3 * n → w.cell? ⟨b, o + j, none⟩ = some (.int .i64 ((pflat L)[j]?.getD 0)))
theorem RdP.below {w w' : World} {B : Nat} {A : Option Addr} {n : Nat} {L : List P3} (h : RdP w B A n L) (hb : Below B w w') : RdP w' B A n L := by
  refine ⟨h.1, fun hn => ?_⟩
  obtain ⟨b, o, rfl, hB, hc⟩ := h.2 hn
  exact ⟨b, o, rfl, hB, fun k hk => (hb.cell (p := ⟨b, o + k, none⟩) hB).trans (hc k hk)⟩
theorem RdP.more {w : World} {B B' : Nat} {A : Option Addr} {n : Nat} {L : List P3} (h : RdP w B A n L) (hB : B ≤ B') : RdP w B' A n L := by
  refine ⟨h.1, fun hn => ?_⟩
  obtain ⟨b, o, rfl, hb, hc⟩ := h.2 hn
  exact ⟨b, o, rfl, by omega, hc⟩
theorem RdP.kept {w w' : World} {A : Option Addr} {n : Nat} {L : List P3} (h : RdP w w.heap.size A n L) (hb : Below w.heap.size w w') : RdP w' w'.heap.size A n L := (h.below hb).more hb.size

/-- The slice value v owns the points L, in a block from 'base' on. -/
def OwnP (w : World) (base : Nat) (v : Value) (L : List P3) : Prop := w.ownsRow base 30 3 v L.length ((pflat L).map (Value.int .i64))
theorem ownP_nil (w : World) (base : Nat) : OwnP w base (.slice none 0 0) [] := World.ownsRow_nil w base 30 3
theorem OwnP.form {w : World} {base : Nat} {v : Value} {L : List P3} (h : OwnP w base v L) : ∃ A c, v = .slice A L.length c ∧ RdP w w.heap.size A L.length L ∧ L.length ≤ c := by
  have h0 := h
  rcases h.2 with ⟨rfl, hn⟩ | ⟨g, cap, cur, rfl, hb, hg, hnc, hcm, hs, ht⟩
  · refine ⟨none, 0, by rw [hn], ⟨rfl, fun hp => by omega⟩, by omega⟩
  · refine ⟨some ⟨g, 0, none⟩, cap, rfl, ⟨rfl, fun hp => ⟨g, 0, rfl, (Array.getElem?_eq_some_iff.1 hg).1, fun k hk => ?_⟩⟩, hnc⟩
    rw [Nat.zero_add]
    have := World.ownsRow.cellAt h0 k (by omega)
    rw [this, List.getElem?_map, List.getElem?_eq_getElem (by rw [pflat_len]; omega)]
    simp
theorem OwnP.rd {w : World} {base : Nat} {A : Option Addr} {c : Nat} {L : List P3} (h : OwnP w base (.slice A L.length c) L) : RdP w w.heap.size A L.length L := by
  obtain ⟨A', c', he, hr, _⟩ := h.form
  simp only [Value.slice.injEq] at he
  rw [he.1]; exact hr
theorem OwnP.below {w w' : World} {base B : Nat} {v : Value} {L : List P3} (h : OwnP w base v L) (hb : Below B w w') (hB : w.heap.size ≤ B) : OwnP w' base v L := by
  refine ⟨h.1, ?_⟩
  rcases h.2 with h2 | ⟨g, cap, cur, hv, hg, hh, r⟩
  · exact .inl h2
  · exact .inr ⟨g, cap, cur, hv, hg, by rw [hb.block g (by have := (Array.getElem?_eq_some_iff.1 hh).1; omega)]; exact hh, r⟩
theorem OwnP.kept {w w' : World} {base : Nat} {v : Value} {L : List P3} (h : OwnP w base v L) (hb : Below w.heap.size w w') : OwnP w' base v L := h.below hb (Nat.le_refl _)
theorem OwnP.le {w : World} {base base' : Nat} {v : Value} {L : List P3} (h : OwnP w base v L) (hb : base' ≤ base) : OwnP w base' v L := ownsRow_le h hb
theorem OwnP.alloc {w : World} {base : Nat} {v : Value} {L : List P3} (h : OwnP w base v L) (o : Obj) : OwnP (w.alloc o) base v L := World.ownsRow.alloc h o
theorem below_ownP {w0 w w' : World} {base : Nat} {v : Value} {L : List P3} (hb : Below w0.heap.size w0 w) (ho : OwnP w base v L) (hbase : w0.heap.size ≤ base) (hg : w.grownBy w' v.ownBlock) : Below w0.heap.size w0 w' :=
  hb.grown hg hb.size (fun k hk => by have := (World.ownsRow.lt ho k hk).1; omega)
theorem Box.ownP_aside {w w' : World} {g lo : Nat} {t : TypeId} {cs : Array Value} {v : Value} {L : List P3} (h : Box w g t cs) (h' : OwnP w lo v L) (hg : w.grownBy w' v.ownBlock) (ht : g < lo) : Box w' g t cs := by
  refine h.grown hg fun e => ?_
  have := (World.ownsRow.lt h' g e.symm).1
  omega
def GivesPRow (w : World) (L : List P3) (e : Ending) (w' : World) : Prop :=
  ∃ A c, e = .returned (.slice A L.length c) ∧ OwnP w' w.heap.size (.slice A L.length c) L ∧ Below w.heap.size w w'
def GivesPRowOk (w : World) (L : List P3) (ok : Bool) (e : Ending) (w' : World) : Prop :=
  ∃ A c, e = .returned (.tuple #[.slice A L.length c, .bool ok]) ∧ OwnP w' w.heap.size (.slice A L.length c) L ∧ Below w.heap.size w w'

theorem Tryd.infoPt : (Tryd.prog.info? 30).map (fun i => (i.zero, i.size, i.bytes)) = some (some (.agg #[.int .i64 0, .int .i64 0, .int .i64 0]), 3, 24) := by kernel_rfl

/-- append onto a row of the call's own, whatever the source. -/
theorem run_append_P (w : World) (t ty : TypeId) (ht : Tryd.prog.underlying t = some (.slice 30)) (base : Nat) (v : Value) (L : List P3) (hown : OwnP w base v L) (B : Nat) (A : Option Addr) (m c : Nat) (M : List P3) (hr : RdP w B A m M)
    (hlen : L.length + m ≤ 1000000000000) (hbase : base ≤ w.heap.size) :
    ∃ A' c' w', (Builtin.append_ #[t, t] ty #[v, .slice A m c]).run Tryd.prog w = .ok (.slice A' (L ++ M).length c') w' ∧ OwnP w' base (.slice A' (L ++ M).length c') (L ++ M) ∧ w.grownBy w' v.ownBlock := by
  obtain ⟨i0, hi, hz0, hz1, hz2⟩ := info_parts Tryd.infoPt
  rcases A with _ | ad
  · have hm : m = 0 := by
      rcases Nat.eq_zero_or_pos m with h0 | h0
      · exact h0
      · obtain ⟨_, _, he, _⟩ := hr.2 h0
        cases he
    subst hm
    have hy : M = [] := List.eq_nil_of_length_eq_zero hr.1
    subst hy
    have hrun : (Builtin.append_ #[t, t] ty #[v, .slice none 0 c]).run Tryd.prog w = .ok v w := by
      rcases hown.2 with ⟨rfl, _⟩ | ⟨g, cap, cur, rfl, _, _, hnc, _⟩
      · simp [Builtin.append_, run_underlying ht, sizeOf, typeInfo, hi, Builtin.lenOf, Builtin.firstCells]
      · simp [Builtin.append_, run_underlying ht, sizeOf, typeInfo, hi, Builtin.lenOf, Builtin.firstCells, hnc, storeCells]
    obtain ⟨A', c', he, _, _⟩ := hown.form
    rw [List.append_nil]
    exact ⟨A', c', w, by rw [hrun, he], by rw [← he]; exact hown, World.grownBy.refl _ _⟩
  · have hcells : ∀ j u, ((pflat M).map (Value.int .i64))[j]? = some u → w.cell? (ad.add j) = some u := by
      intro j u hu
      have hj : j < (pflat M).length := by
        have := (List.getElem?_eq_some_iff.1 hu).1
        simpa using this
      rw [pflat_len] at hj
      obtain ⟨b, off, he, _, hc⟩ := hr.2 (by have := hr.1; omega)
      obtain rfl := Option.some.inj he
      rw [Addr.add_lit, hc j (by have := hr.1; omega), ← hu, List.getElem?_map, List.getElem?_eq_getElem (by rw [pflat_len]; exact hj)]
      rfl
    obtain ⟨v', w', hrun, r1, r2, _⟩ := run_append_own (P := Tryd.prog) w base t ty 30 i0 (.agg #[.int .i64 0, .int .i64 0, .int .i64 0]) 3 24 ht hi hz0 hz1 hz2 rfl (by decide) v L.length ((pflat L).map (Value.int .i64)) hown ad m c ((pflat M).map (Value.int .i64)) (by rw [List.length_map, pflat_len, hr.1]) hcells
      (ints_oneCell _ _) (by unfold maxLen; omega) (by omega) hbase
    have h4 : OwnP w' base v' (L ++ M) := by
      unfold OwnP
      rw [pflat_app, List.length_append, List.map_append, hr.1]
      exact r1
    obtain ⟨A', c', rfl, _, _⟩ := h4.form
    exact ⟨A', c', w', hrun, h4, r2⟩

theorem wpList_append_P (w : World) {ops : Array Oper} {rest : List Oper} {o : Oper} {a : Act} {Q : Exit → Act → World → Prop} (hgd : o.guard = none) (s x : Operand) (t : TypeId)
    (ho : o.op = .call { callee := .builtin .append, args := #[s, x], argTypes := #[t, t] }) (ht : Tryd.prog.underlying t = some (.slice 30))
    (base : Nat) (v : Value) (L : List P3) (hs : a.eval s = v) (hown : OwnP w base v L) (B : Nat) (A : Option Addr) (m c : Nat) (M : List P3) (hx : a.eval x = .slice A m c) (hr : RdP w B A m M)
    (hlen : L.length + m ≤ 1000000000000) (hbase : base ≤ w.heap.size)
    (h : ∀ A' c' w', OwnP w' base (.slice A' (L ++ M).length c') (L ++ M) → w.grownBy w' v.ownBlock → wpList Tryd.prog ops Q rest (a.put o.dst (.slice A' (L ++ M).length c')) w') : wpList Tryd.prog ops Q (o :: rest) a w := by
  obtain ⟨A', c', w', hrun, h4, h5⟩ := run_append_P w t o.type ht base v L hown B A m c M hr hlen hbase
  refine wpList_plain hgd fun K hK => ?_
  unfold Oper.wp execOp
  simp only [ho, resolve, invoke, builtin, Sem.run_bind, Sem.run_pure, Result.andThen_ok, List.map_toArray, List.map_cons, List.map_nil, hs, hx, hrun]
  exact hK _ _ (h A' c' w' h4 h5)

/-- The same at a step of a region that draws its order. -/
theorem step_append_P (w : World) {ops : Array Oper} {o : Oper} {a : Act} {K : Act → World → Prop} {Q : Exit → Act → World → Prop} {E : Prop} (hgd : o.guard = none) (s x : Operand) (t : TypeId)
    (ho : o.op = .call { callee := .builtin .append, args := #[s, x], argTypes := #[t, t] }) (ht : Tryd.prog.underlying t = some (.slice 30))
    (base : Nat) (v : Value) (L : List P3) (hs : a.eval s = v) (hown : OwnP w base v L) (B : Nat) (A : Option Addr) (m c : Nat) (M : List P3) (hx : a.eval x = .slice A m c) (hr : RdP w B A m M)
    (hlen : L.length + m ≤ 1000000000000) (hbase : base ≤ w.heap.size)
    (h : ∀ A' c' w', OwnP w' base (.slice A' (L ++ M).length c') (L ++ M) → w.grownBy w' v.ownBlock → K (a.put o.dst (.slice A' (L ++ M).length c')) w') :
    if Region.wanted o (yielded ops a.tmps) = true then Oper.wp Tryd.prog o a w K Q else E := by
  have hw : Region.wanted o (yielded ops a.tmps) = true := by simp [Region.wanted, hgd]
  rw [if_pos hw]
  obtain ⟨A', c', w', hrun, h4, h5⟩ := run_append_P w t o.type ht base v L hown B A m c M hr hlen hbase
  unfold Oper.wp execOp
  simp only [ho, resolve, invoke, builtin, Sem.run_bind, Sem.run_pure, Result.andThen_ok, List.map_toArray, List.map_cons, List.map_nil, hs, hx, hrun]
  exact h A' c' w' h4 h5

/-- A point that has been laid as a row of one. -/
theorem rdP_new (w : World) (x : P3) : RdP (w.alloc (.cells #[.int .i64 x.x, .int .i64 x.y, .int .i64 x.e] 30)) (w.heap.size + 1) (some ⟨w.heap.size, 0, none⟩) 1 [x] := by
  refine ⟨rfl, fun _ => ⟨w.heap.size, 0, rfl, by omega, fun k hk => ?_⟩⟩
  have hb := Box.new w 30 #[.int .i64 x.x, .int .i64 x.y, .int .i64 x.e]
  obtain rfl | rfl | rfl : k = 0 ∨ k = 1 ∨ k = 2 := by omega
  · exact hb.cell 0
  · exact hb.cell 1
  · exact hb.cell 2
end Go.Proofs.YtokhadhfjbecmaaDoor
