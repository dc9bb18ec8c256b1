/- Rows of points modulo a prime: read, owned, appended to (own work). -/
import Derived.Test.YtbgoiflkpefckaaRsAppend
import Derived.Test.YtbgoiflkpefckaaFmI3
import Derived.Deep.AppendLies
namespace Go.Proofs.Ytbgoiflkpefckaa
open Go.RowKit Go.Joins

/-- A row's numbers, one behind the other. -/
def fflat : List FP → List Int
  | [] => []
  | x :: L => fpx x :: fpy x :: fpz x :: fflat L
theorem fflat_len : ∀ L : List FP, (fflat L).length = L.length * 3
  | [] => rfl
  | x :: L => by simp only [fflat, List.length_cons]; rw [fflat_len L]; omega
theorem fflat_app : ∀ (L M : List FP), fflat (L ++ M) = fflat L ++ fflat M
  | [], _ => rfl
  | x :: L, M => by simp only [fflat, List.cons_append]; rw [fflat_app L M]
theorem fflat_at : ∀ (L : List FP) (k : Nat), k < L.length → (fflat L)[3 * k]?.getD 0 = fpx (L[k]?.getD none) ∧ (fflat L)[3 * k + 1]?.getD 0 = fpy (L[k]?.getD none) ∧ (fflat L)[3 * k + 2]?.getD 0 = fpz (L[k]?.getD none)
  | [], k, h => by simp at h
  | x :: L, 0, _ => by simp [fflat]
  | x :: L, k + 1, h => by
    have ih := fflat_at L k (by simpa using h)
    have e1 : 3 * (k + 1) = 3 * k + 1 + 1 + 1 := by omega
    rw [e1]
    simpa [fflat] using ih
/-- The slice '.slice A n c' reads as the points L, in blocks below B. -/
def RdF (w : World) (B : Nat) (A : Option Addr) (n : Nat) (L : List FP) : Prop :=
  L.length = n ∧ (0 < n → ∃ b o, A = some ⟨b, o, none⟩ ∧ b < B ∧ ∀ j, j < 3 * n → w.cell? ⟨b, o + j, none⟩ = some (.int .i64 ((fflat L)[j]?.getD 0)))
theorem RdF.below {w w' : World} {B : Nat} {A : Option Addr} {n : Nat} {L : List FP} (h : RdF w B A n L) (hb : Below B w w') : RdF w' B A n L := by
  refine ⟨h.1, fun hn => ?_⟩
  obtain ⟨b, o, rfl, hB, hc⟩ := h.2 hn
  exact ⟨b, o, rfl, hB, fun k hk => (hb.cell (p := ⟨b, o + k, none⟩) hB).trans (hc k hk)⟩
theorem RdF.more {w : World} {B B' : Nat} {A : Option Addr} {n : Nat} {L : List FP} (h : RdF w B A n L) (hB : B ≤ B') : RdF w B' A n L := by
  refine ⟨h.1, fun hn => ?_⟩
  obtain ⟨b, o, rfl, hb, hc⟩ := h.2 hn
  exact ⟨b, o, rfl, by omega, hc⟩
theorem RdF.kept {w w' : World} {A : Option Addr} {n : Nat} {L : List FP} (h : RdF w w.heap.size A n L) (hb : Below w.heap.size w w') : RdF w' w'.heap.size A n L := (h.below hb).more hb.size

/-- The slice value v owns the points L, in a block from 'base' on. -/
def OwnF (w : World) (base : Nat) (v : Value) (L : List FP) : Prop := w.ownsRow base 70 3 v L.length ((fflat L).map (Value.int .i64))
theorem ownF_nil (w : World) (base : Nat) : OwnF w base (.slice none 0 0) [] := World.ownsRow_nil w base 70 3
theorem OwnF.form {w : World} {base : Nat} {v : Value} {L : List FP} (h : OwnF w base v L) : ∃ A c, v = .slice A L.length c ∧ RdF w w.heap.size A L.length L ∧ L.length ≤ c := by
  have h0 := h
  rcases h.2 with ⟨rfl, hn⟩ | ⟨g, cap, cur, rfl, hb, hg, hnc, hcm, hs, ht⟩
  · refine ⟨none, 0, by rw [hn], ⟨rfl, fun hp => by omega⟩, by omega⟩
  · refine ⟨some ⟨g, 0, none⟩, cap, rfl, ⟨rfl, fun hp => ⟨g, 0, rfl, (Array.getElem?_eq_some_iff.1 hg).1, fun k hk => ?_⟩⟩, hnc⟩
    rw [Nat.zero_add]
    have := World.ownsRow.cellAt h0 k (by omega)
    rw [this, List.getElem?_map, List.getElem?_eq_getElem (by rw [fflat_len]; omega)]
    simp
theorem OwnF.rd {w : World} {base : Nat} {A : Option Addr} {c : Nat} {L : List FP} (h : OwnF w base (.slice A L.length c) L) : RdF w w.heap.size A L.length L := by
  obtain ⟨A', c', he, hr, _⟩ := h.form
  simp only [Value.slice.injEq] at he
  rw [he.1]; exact hr
theorem OwnF.below {w w' : World} {base B : Nat} {v : Value} {L : List FP} (h : OwnF w base v L) (hb : Below B w w') (hB : w.heap.size ≤ B) : OwnF w' base v L := by
  refine ⟨h.1, ?_⟩
  rcases h.2 with h2 | ⟨g, cap, cur, hv, hg, hh, r⟩
  · exact .inl h2
  · exact .inr ⟨g, cap, cur, hv, hg, by rw [hb.block g (by have := (Array.getElem?_eq_some_iff.1 hh).1; omega)]; exact hh, r⟩
theorem OwnF.kept {w w' : World} {base : Nat} {v : Value} {L : List FP} (h : OwnF w base v L) (hb : Below w.heap.size w w') : OwnF w' base v L := h.below hb (Nat.le_refl _)
theorem OwnF.le {w : World} {base base' : Nat} {v : Value} {L : List FP} (h : OwnF w base v L) (hb : base' ≤ base) : OwnF w base' v L := ownsRow_le h hb
theorem OwnF.alloc {w : World} {base : Nat} {v : Value} {L : List FP} (h : OwnF w base v L) (o : Obj) : OwnF (w.alloc o) base v L := World.ownsRow.alloc h o
theorem below_ownF {w0 w w' : World} {base : Nat} {v : Value} {L : List FP} (hb : Below w0.heap.size w0 w) (ho : OwnF w base v L) (hbase : w0.heap.size ≤ base) (hg : w.grownBy w' v.ownBlock) : Below w0.heap.size w0 w' :=
  hb.grown hg hb.size (fun k hk => by have := (World.ownsRow.lt ho k hk).1; omega)
theorem Box.ownF_aside {w w' : World} {g lo : Nat} {t : TypeId} {cs : Array Value} {v : Value} {L : List FP} (h : Box w g t cs) (h' : OwnF w lo v L) (hg : w.grownBy w' v.ownBlock) (ht : g < lo) : Box w' g t cs := by
  refine h.grown hg fun e => ?_
  have := (World.ownsRow.lt h' g e.symm).1
  omega
def GivesFRow (w : World) (L : List FP) (e : Ending) (w' : World) : Prop :=
  ∃ A c, e = .returned (.slice A L.length c) ∧ OwnF w' w.heap.size (.slice A L.length c) L ∧ Below w.heap.size w w'
def GivesFRowOk (w : World) (L : List FP) (ok : Bool) (e : Ending) (w' : World) : Prop :=
  ∃ A c, e = .returned (.tuple #[.slice A L.length c, .bool ok]) ∧ OwnF w' w.heap.size (.slice A L.length c) L ∧ Below w.heap.size w w'

theorem Try.infoFp : (Try.prog.info? 70).map (fun i => (i.zero, i.size, i.bytes)) = some (some (.agg #[.int .i64 0, .int .i64 0, .int .i64 0]), 3, 24) := by kernel_rfl

/-- append onto a row of the call's own, whatever the source. -/
theorem run_append_F (w : World) (t ty : TypeId) (ht : Try.prog.underlying t = some (.slice 70)) (base : Nat) (v : Value) (L : List FP) (hown : OwnF w base v L) (B : Nat) (A : Option Addr) (m c : Nat) (M : List FP) (hr : RdF w B A m M)
    (hlen : L.length + m ≤ 1000000000000) (hbase : base ≤ w.heap.size) :
    ∃ A' c' w', (Builtin.append_ #[t, t] ty #[v, .slice A m c]).run Try.prog w = .ok (.slice A' (L ++ M).length c') w' ∧ OwnF w' base (.slice A' (L ++ M).length c') (L ++ M) ∧ w.grownBy w' v.ownBlock := by
  obtain ⟨i0, hi, hz0, hz1, hz2⟩ := info_parts Try.infoFp
  rcases A with _ | ad
  · have hm : m = 0 := by
      rcases Nat.eq_zero_or_pos m with h0 | h0
      · exact h0
      · obtain ⟨_, _, he, _⟩ := hr.2 h0
        cases he
    subst hm
    have hy : M = [] := List.eq_nil_of_length_eq_zero hr.1
    subst hy
    have hrun : (Builtin.append_ #[t, t] ty #[v, .slice none 0 c]).run Try.prog w = .ok v w := by
      rcases hown.2 with ⟨rfl, _⟩ | ⟨g, cap, cur, rfl, _, _, hnc, _⟩
      · simp [Builtin.append_, run_underlying ht, sizeOf, typeInfo, hi, Builtin.lenOf, Builtin.firstCells]
      · simp [Builtin.append_, run_underlying ht, sizeOf, typeInfo, hi, Builtin.lenOf, Builtin.firstCells, hnc, storeCells]
    obtain ⟨A', c', he, _, _⟩ := hown.form
    rw [List.append_nil]
    exact ⟨A', c', w, by rw [hrun, he], by rw [← he]; exact hown, World.grownBy.refl _ _⟩
  · have hcells : ∀ j u, ((fflat M).map (Value.int .i64))[j]? = some u → w.cell? (ad.add j) = some u := by
      intro j u hu
      have hj : j < (fflat M).length := by
        have := (List.getElem?_eq_some_iff.1 hu).1
        simpa using this
      rw [fflat_len] at hj
      obtain ⟨b, off, he, _, hc⟩ := hr.2 (by have := hr.1; omega)
      obtain rfl := Option.some.inj he
      rw [Addr.add_lit, hc j (by have := hr.1; omega), ← hu, List.getElem?_map, List.getElem?_eq_getElem (by rw [fflat_len]; exact hj)]
      rfl
    obtain ⟨v', w', hrun, r1, r2, _⟩ := run_append_own (P := Try.prog) w base t ty 70 i0 (.agg #[.int .i64 0, .int .i64 0, .int .i64 0]) 3 24 ht hi hz0 hz1 hz2 rfl (by decide) v L.length ((fflat L).map (Value.int .i64)) hown ad m c ((fflat M).map (Value.int .i64)) (by rw [List.length_map, fflat_len, hr.1]) hcells
      (ints_oneCell _ _) (by unfold maxLen; omega) (by omega) hbase
    have h4 : OwnF w' base v' (L ++ M) := by
      unfold OwnF
      rw [fflat_app, List.length_append, List.map_append, hr.1]
      exact r1
    obtain ⟨A', c', rfl, _, _⟩ := h4.form
    exact ⟨A', c', w', hrun, h4, r2⟩

theorem wpList_append_F (w : World) {ops : Array Oper} {rest : List Oper} {o : Oper} {a : Act} {Q : Exit → Act → World → Prop} (hgd : o.guard = none) (s x : Operand) (t : TypeId)
    (ho : o.op = .call { callee := .builtin .append, args := #[s, x], argTypes := #[t, t] }) (ht : Try.prog.underlying t = some (.slice 70))
    (base : Nat) (v : Value) (L : List FP) (hs : a.eval s = v) (hown : OwnF w base v L) (B : Nat) (A : Option Addr) (m c : Nat) (M : List FP) (hx : a.eval x = .slice A m c) (hr : RdF w B A m M)
    (hlen : L.length + m ≤ 1000000000000) (hbase : base ≤ w.heap.size)
    (h : ∀ A' c' w', OwnF w' base (.slice A' (L ++ M).length c') (L ++ M) → w.grownBy w' v.ownBlock → wpList Try.prog ops Q rest (a.put o.dst (.slice A' (L ++ M).length c')) w') : wpList Try.prog ops Q (o :: rest) a w := by
  obtain ⟨A', c', w', hrun, h4, h5⟩ := run_append_F w t o.type ht base v L hown B A m c M hr hlen hbase
  refine wpList_plain hgd fun K hK => ?_
  unfold Oper.wp execOp
  simp only [ho, resolve, invoke, builtin, Sem.run_bind, Sem.run_pure, Result.andThen_ok, List.map_toArray, List.map_cons, List.map_nil, hs, hx, hrun]
  exact hK _ _ (h A' c' w' h4 h5)

/-- The same at a step of a region that draws its order. -/
theorem step_append_F (w : World) {ops : Array Oper} {o : Oper} {a : Act} {K : Act → World → Prop} {Q : Exit → Act → World → Prop} {E : Prop} (hgd : o.guard = none) (s x : Operand) (t : TypeId)
    (ho : o.op = .call { callee := .builtin .append, args := #[s, x], argTypes := #[t, t] }) (ht : Try.prog.underlying t = some (.slice 70))
    (base : Nat) (v : Value) (L : List FP) (hs : a.eval s = v) (hown : OwnF w base v L) (B : Nat) (A : Option Addr) (m c : Nat) (M : List FP) (hx : a.eval x = .slice A m c) (hr : RdF w B A m M)
    (hlen : L.length + m ≤ 1000000000000) (hbase : base ≤ w.heap.size)
    (h : ∀ A' c' w', OwnF w' base (.slice A' (L ++ M).length c') (L ++ M) → w.grownBy w' v.ownBlock → K (a.put o.dst (.slice A' (L ++ M).length c')) w') :
    if Region.wanted o (yielded ops a.tmps) = true then Oper.wp Try.prog o a w K Q else E := by
  have hw : Region.wanted o (yielded ops a.tmps) = true := by simp [Region.wanted, hgd]
  rw [if_pos hw]
  obtain ⟨A', c', w', hrun, h4, h5⟩ := run_append_F w t o.type ht base v L hown B A m c M hr hlen hbase
  unfold Oper.wp execOp
  simp only [ho, resolve, invoke, builtin, Sem.run_bind, Sem.run_pure, Result.andThen_ok, List.map_toArray, List.map_cons, List.map_nil, hs, hx, hrun]
  exact h A' c' w' h4 h5

/-- A point that has been laid as a row of one. -/
theorem rdF_new (w : World) (x : FP) : RdF (w.alloc (.cells #[.int .i64 (fpx x), .int .i64 (fpy x), .int .i64 (fpz x)] 70)) (w.heap.size + 1) (some ⟨w.heap.size, 0, none⟩) 1 [x] := by
  refine ⟨rfl, fun _ => ⟨w.heap.size, 0, rfl, by omega, fun k hk => ?_⟩⟩
  have hb := Box.new w 70 #[.int .i64 (fpx x), .int .i64 (fpy x), .int .i64 (fpz x)]
  obtain rfl | rfl | rfl : k = 0 ∨ k = 1 ∨ k = 2 := by omega
  · exact hb.cell 0
  · exact hb.cell 1
  · exact hb.cell 2
end Go.Proofs.Ytbgoiflkpefckaa
