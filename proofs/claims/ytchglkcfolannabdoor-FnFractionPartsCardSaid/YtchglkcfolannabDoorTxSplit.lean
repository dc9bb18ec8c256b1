/- The model's l1Split: the parts of a text between separators. -/
import Derived.Test.YtchglkcfolannabDoorTxNum
import Derived.Laws.AppendOwn
namespace Go.Proofs.YtchglkcfolannabDoor
open Go.RowKit Go.Joins

/-- The slice value v owns the strings ps, in a block from 'base' on. -/
def OwnS (w : World) (base : Nat) (v : Value) (ps : List ByteArray) : Prop := w.ownsRow base 9 1 v ps.length (ps.map Value.string)
theorem OwnS.form {w : World} {base : Nat} {v : Value} {ps : List ByteArray} (h : OwnS w base v ps) : ∃ A c, v = .slice A ps.length c ∧ (0 < ps.length → ∃ g, A = some ⟨g, 0, none⟩ ∧ g < w.heap.size ∧ ∀ k p, ps[k]? = some p → w.cell? ⟨g, k, none⟩ = some (.string p)) := by
  have h0 := h
  rcases h.2 with ⟨rfl, hn⟩ | ⟨g, cap, cur, rfl, hb, hg, hnc, hcm, hs, ht⟩
  · refine ⟨none, 0, by rw [hn], fun hp => by omega⟩
  · refine ⟨some ⟨g, 0, none⟩, cap, rfl, fun hp => ⟨g, rfl, (Array.getElem?_eq_some_iff.1 hg).1, fun k p hk => ?_⟩⟩
    have hlt : k < ps.length := (List.getElem?_eq_some_iff.1 hk).1
    have := World.ownsRow.cellAt h0 k (by omega)
    rw [this, List.getElem?_map, hk]
    rfl
theorem OwnS.below {w w' : World} {base B : Nat} {v : Value} {ps : List ByteArray} (h : OwnS w base v ps) (hb : Below B w w') (hB : w.heap.size ≤ B) : OwnS w' base v ps := by
  refine ⟨h.1, ?_⟩
  rcases h.2 with h2 | ⟨g, cap, cur, hv, hg, hh, r⟩
  · exact .inl h2
  · exact .inr ⟨g, cap, cur, hv, hg, by rw [hb.block g (by have := (Array.getElem?_eq_some_iff.1 hh).1; omega)]; exact hh, r⟩

theorem Tryd.infoStr : (Tryd.prog.info? 9).map (fun i => (i.zero, i.size, i.bytes)) = some (some (.string ByteArray.empty), 1, 16) := by kernel_rfl

/-- One statement 'append(v, p)': v is owned. -/
theorem wpList_append_str {P : Program} (w : World) {ops : Array Oper} {rest : List Oper} {o : Oper} {a : Act} {Q : Exit → Act → World → Prop} (hgd : o.guard = none) (s x : Operand) (t : TypeId)
    (ho : o.op = .call { callee := .builtin .append, args := #[s, x], argTypes := #[t, t] }) (ht : P.underlying t = some (.slice 9)) (hinfo : (P.info? 9).map (fun i => (i.zero, i.size, i.bytes)) = some (some (.string ByteArray.empty), 1, 16))
    (base : Nat) (v : Value) (ps : List ByteArray) (hs : a.eval s = v) (hown : OwnS w base v ps) (g c : Nat) (p : ByteArray) (hx : a.eval x = .slice (some ⟨g, 0, none⟩) 1 c) (hr : w.cell? ⟨g, 0, none⟩ = some (.string p))
    (hlen : ps.length + 1 ≤ 8796093022208) (hbase : base ≤ w.heap.size)
    (h : ∀ A' c' w', OwnS w' base (.slice A' (ps ++ [p]).length c') (ps ++ [p]) → w.grownBy w' v.ownBlock → wpList P ops Q rest (a.put o.dst (.slice A' (ps ++ [p]).length c')) w') : wpList P ops Q (o :: rest) a w := by
  obtain ⟨i0, hi, hz0, hz1, hz2⟩ : ∃ i0, P.info? 9 = some i0 ∧ i0.zero = some (.string ByteArray.empty) ∧ i0.size = 1 ∧ i0.bytes = 16 := by
    rcases hh : P.info? 9 with _ | i0
    · rw [hh] at hinfo; cases hinfo
    · rw [hh] at hinfo
      simp only [Option.map_some, Option.some.injEq, Prod.mk.injEq] at hinfo
      exact ⟨i0, rfl, hinfo.1, hinfo.2.1, hinfo.2.2⟩
  refine wpList_append_own w hgd s x t ho base 9 i0 (.string ByteArray.empty) 1 16 ht hi hz0 hz1 hz2 rfl (by decide) v ps.length (ps.map Value.string) hs hown ⟨g, 0, none⟩ 1 c [Value.string p] hx rfl (fun j u hu => ?_) (fun u hu => ?_)
    (by unfold maxLen; omega) (by omega) hbase fun v' w' h1 h2 _ => ?_
  · obtain rfl : j = 0 := by
      have := (List.getElem?_eq_some_iff.1 hu).1
      simpa using this
    simp at hu
    subst hu
    simpa [Addr.add] using hr
  · simp at hu
    subst hu
    rfl
  · have h4 : OwnS w' base v' (ps ++ [p]) := by
      unfold OwnS
      rw [List.length_append, List.map_append]
      exact h1
    obtain ⟨A', c', rfl, _⟩ := h4.form
    exact h A' c' w' h4 h2

/-- The parts behind the first i bytes, and where the next one begins. -/
def splitTo (s : ByteArray) (sep : UInt8) : Nat → List ByteArray × Nat
  | 0 => ([], 0)
  | i + 1 => if s.data[i]? = some sep then ((splitTo s sep i).1 ++ [s.extract (splitTo s sep i).2 i], i + 1) else splitTo s sep i
def splitAll (s : ByteArray) (sep : UInt8) : List ByteArray := (splitTo s sep s.size).1 ++ [s.extract (splitTo s sep s.size).2 s.size]
theorem splitTo_le (s : ByteArray) (sep : UInt8) (i : Nat) : (splitTo s sep i).2 ≤ i ∧ (splitTo s sep i).1.length ≤ i := by
  induction i with
  | zero => exact ⟨Nat.le_refl _, Nat.le_refl _⟩
  | succ i ih =>
    unfold splitTo
    split
    · exact ⟨Nat.le_refl _, by simp; omega⟩
    · omega
theorem splitTo_hit {s : ByteArray} {sep : UInt8} {i : Nat} (h : i < s.size) (e : s[i] = sep) : splitTo s sep (i + 1) = ((splitTo s sep i).1 ++ [s.extract (splitTo s sep i).2 i], i + 1) := by
  have hi : s.data[i]? = some sep := by rw [Array.getElem?_eq_getElem h]; exact congrArg some e
  rw [splitTo, if_pos hi]
theorem splitTo_miss {s : ByteArray} {sep : UInt8} {i : Nat} (h : i < s.size) (e : s[i] ≠ sep) : splitTo s sep (i + 1) = splitTo s sep i := by
  have hi : ¬ s.data[i]? = some sep := by rw [Array.getElem?_eq_getElem h]; exact fun e2 => e (Option.some.inj e2)
  rw [splitTo, if_neg hi]

set_option maxHeartbeats 2000000 in
theorem l1Split_any (s : ByteArray) (sep : UInt8) (w : World) (hs : s.size ≤ 1048576) :
    Calls Tryd.prog 63 #[.string s, .int .u8 (sep.toNat : Int)] w fun e w' => ∃ A c, e = .returned (.slice A (splitAll s sep).length c) ∧ OwnS w' w.heap.size (.slice A (splitAll s sep).length c) (splitAll s sep) ∧ Below w.heap.size w w' := by
  go_enter Tryd.func63, Tryd.ntmps63
  go_wp2_with fail
  go_loopw [5, 6, 7] (fun v f q wr => ∃ (i : Nat) (A : Option Addr) (c L F : Nat) (ps : List ByteArray), i ≤ s.size ∧ q = .int .i64 i ∧ f = .int .i64 F ∧ F ≤ i ∧ L ≤ i ∧ v = .slice A L c ∧ Hid (L = ps.length ∧ splitTo s sep i = (ps, F)) ∧ OwnS wr w.heap.size (.slice A L c) ps ∧ Below w.heap.size w wr) (fun _ _ q _ => s.size - (intOf q).toNat)
  case atStart => exact ⟨0, none, 0, 0, 0, [], Nat.zero_le _, rfl, rfl, Nat.le_refl _, Nat.le_refl _, rfl, ⟨rfl, rfl⟩, World.ownsRow_nil _ _ _ _, Below.refl _ _⟩
  case round =>
    obtain ⟨i, A, c, L, f, ps, hi, rfl, rfl, hfi, hLi, rfl, hL, hown, hb⟩ := hrel
    obtain rfl := hL.out.1
    by_cases hlt : i < s.size
    · by_cases heq : s[i] = sep
      · have e1 : ((s[i].toNat : Int) == (sep.toNat : Int)) = true := by rw [heq]; simp
        have hh := Lib.hid (splitTo_hit hlt heq)
        clear heq
        have hown1 := hown.below (below_alloc1 wr (.cells #[.string (s.extract f i)] 9)) (Nat.le_refl _)
        have hcell := (Box.new wr 9 #[.string (s.extract f i)]).cell 0
        go_wp2_with (at_builtin; refine wpList_append_str _ rfl _ _ 63 rfl Tryd.underlying63 Tryd.infoStr w.heap.size _ ps rfl hown1 _ _ (s.extract f i) rfl hcell ?c1 ?c2 ?_)
        case c1 => omega
        case c2 => have := hb.size; simp; omega
        intro A' c' w2 hown2 hg
        have hrow : ∀ k, (Value.slice A ps.length c).ownBlock = some k → w.heap.size ≤ k := fun k hk => (World.ownsRow.lt hown1 k hk).1
        have hb2 : Below w.heap.size w w2 := (Below.step hb (below_alloc1 wr (.cells #[.string (s.extract f i)] 9))).grown hg (by have := hb.size; simp; omega) (fun k hk => hrow k hk)
        have hL2 : Hid (ps.length + 1 = (ps ++ [s.extract f i]).length ∧ splitTo s sep (i + 1) = (ps ++ [s.extract f i], i + 1)) := ⟨by simp, by rw [hh.out, hL.out.2]⟩
        clear hown hown1 hcell hg hb hrow
        go_wp2_with fail
        go_roundw
        case rel => exact ⟨i + 1, A', c', ps.length + 1, i + 1, _, by omega, by go_num, by go_num, Nat.le_refl _, by omega, rfl, hL2, hown2, hb2⟩
        case measure => simp [intOf]; omega
      · have e1 : ((s[i].toNat : Int) == (sep.toNat : Int)) = false := by
          rw [beq_eq_false_iff_ne]
          intro e
          exact heq (UInt8.toNat_inj.1 (by omega))
        have hh := Lib.hid (splitTo_miss hlt heq)
        clear heq
        have hL2 : Hid (ps.length = ps.length ∧ splitTo s sep (i + 1) = (ps, f)) := ⟨rfl, by rw [hh.out, hL.out.2]⟩
        go_wp2_with fail
        go_roundw
        case rel => exact ⟨i + 1, A, c, _, f, ps, by omega, by go_num, rfl, by omega, by omega, rfl, hL2, hown, hb⟩
        case measure => simp [intOf]; omega
    · obtain rfl : i = s.size := by omega
      have hown1 := hown.below (below_alloc1 wr (.cells #[.string (s.extract f s.size)] 9)) (Nat.le_refl _)
      have hcell := (Box.new wr 9 #[.string (s.extract f s.size)]).cell 0
      go_wp2_with (at_builtin; refine wpList_append_str _ rfl _ _ 63 rfl Tryd.underlying63 Tryd.infoStr w.heap.size _ ps rfl hown1 _ _ (s.extract f s.size) rfl hcell ?c1 ?c2 ?_)
      case c1 => omega
      case c2 => have := hb.size; simp; omega
      intro A' c' w2 hown2 hg
      have hrow : ∀ k, (Value.slice A ps.length c).ownBlock = some k → w.heap.size ≤ k := fun k hk => (World.ownsRow.lt hown1 k hk).1
      have hb2 : Below w.heap.size w w2 := (Below.step hb (below_alloc1 wr (.cells #[.string (s.extract f s.size)] 9))).grown hg (by have := hb.size; simp; omega) (fun k hk => hrow k hk)
      have he : Hid (splitAll s sep = ps ++ [s.extract f s.size]) := by show splitAll s sep = _; unfold splitAll; rw [hL.out.2]
      clear hown hown1 hcell hg hb hrow
      go_wp2_with fail
      go_ret
      have hlen : (splitAll s sep).length = ps.length + 1 := by rw [he.out]; simp
      exact ⟨A', c', by rw [hlen]; rfl, by rw [hlen, he.out]; exact hown2, hb2⟩
end Go.Proofs.YtchglkcfolannabDoor
