/- append(out, []int{..}) onto a row of rows of the call's own; what a call hands back. -/
import Derived.Test.YtbgoiflkpefckaaSS
namespace Go.Proofs.Ytbgoiflkpefckaa
open Go.RowKit Go.Joins

theorem Try.infoS : (Try.prog.info? 36).map (fun i => (i.zero, i.size, i.bytes)) = some (some (.slice none 0 0), 1, 24) := by kernel_rfl

theorem wpList_append_ss (w : World) {ops : Array Oper} {rest : List Oper} {o : Oper} {a : Act} {Q : Exit → Act → World → Prop} (hgd : o.guard = none) (s x : Operand)
    (ho : o.op = .call { callee := .builtin .append, args := #[s, x], argTypes := #[31, 31] })
    (base : Nat) (v : Value) (L : List (List Int)) (vs : List Value) (hs : a.eval s = v) (h : SS w base v L vs) (u : Value) (xs : List Int) (hu : Own w base u xs)
    (hnew : ∀ j : Nat, j < L.length → ∀ g, (vs[j]?.getD undef).ownBlock = some g → u.ownBlock ≠ some g) (ad : Addr) (c : Nat) (hx : a.eval x = .slice (some ad) 1 c) (hcell : w.cell? (ad.add 0) = some u)
    (hlen : L.length + 1 ≤ 4398046511104) (hbase : base ≤ w.heap.size)
    (hK : ∀ A' c' w', SS w' base (.slice A' (L ++ [xs]).length c') (L ++ [xs]) (vs ++ [u]) → w.grownBy w' v.ownBlock → wpList Try.prog ops Q rest (a.put o.dst (.slice A' (L ++ [xs]).length c')) w') : wpList Try.prog ops Q (o :: rest) a w := by
  obtain ⟨i0, hi, hz0, hz1, hz2⟩ := info_parts Try.infoS
  have hone : u.oneCell' = true := by
    obtain ⟨A, c', e, _⟩ := hu.form
    rw [e]; rfl
  refine wpList_append_own w hgd s x 31 ho base 36 i0 (.slice none 0 0) 1 24 Try.underlying31 hi hz0 hz1 hz2 rfl (by decide) v L.length vs hs h.outer ad 1 c [u] hx rfl ?_ ?_ (by unfold maxLen; omega) (by omega) hbase fun v' w' h1 h2 _ => ?_
  · intro j y hy
    rcases j with _ | j
    · simp at hy; rw [← hy]; exact hcell
    · simp at hy
  · intro y hy
    simp at hy
    rw [hy]; exact hone
  · have h3 := h.push hu hnew h2 h1
    have hl : (L ++ [xs]).length = L.length + 1 := by simp
    have hform : ∃ A' c', v' = .slice A' (L ++ [xs]).length c' := by
      rcases h3.outer.2 with ⟨rfl, hn⟩ | ⟨g, cap, cur, rfl, _⟩
      · exact ⟨none, 0, by rw [hn]⟩
      · exact ⟨_, cap, rfl⟩
    obtain ⟨A', c', rfl⟩ := hform
    exact hK A' c' w' h3 h2

/-- A new pair, and the one-cell row that bears it: what the walk wants of the world behind them. -/
theorem SS.pair {w0 wr : World} {base : Nat} {v : Value} {L : List (List Int)} {vs : List Value} (h : SS wr base v L vs) (hb : Below w0.heap.size w0 wr) (hbase : base ≤ wr.heap.size) (p k : Int) :
    let w2 := (wr.alloc (.cells #[.int .i64 p, .int .i64 k] 3)).alloc (.cells #[.slice (some ⟨wr.heap.size, 0, none⟩) 2 2] 36)
    SS w2 base v L vs ∧ Own w2 base (.slice (some ⟨wr.heap.size, 0, none⟩) 2 2) [p, k] ∧
      (∀ j : Nat, j < L.length → ∀ g, (vs[j]?.getD undef).ownBlock = some g → (Value.slice (some ⟨wr.heap.size, 0, none⟩) 2 2).ownBlock ≠ some g) ∧
      w2.cell? ((⟨wr.heap.size + 1, 0, none⟩ : Addr).add 0) = some (.slice (some ⟨wr.heap.size, 0, none⟩) 2 2) ∧ base ≤ w2.heap.size ∧ Below w0.heap.size w0 w2 := by
  intro w2
  have h1 := below_alloc1 wr (.cells #[.int .i64 p, .int .i64 k] 3)
  have h2 := below_alloc1 (wr.alloc (.cells #[.int .i64 p, .int .i64 k] 3)) (.cells #[.slice (some ⟨wr.heap.size, 0, none⟩) 2 2] 36)
  have hown : Own (wr.alloc (.cells #[.int .i64 p, .int .i64 k] 3)) base (.slice (some ⟨wr.heap.size, 0, none⟩) 2 2) [p, k] := World.ownsRow_lit wr #[.int .i64 p, .int .i64 k] 2 hbase (by unfold maxLen; omega) rfl
  refine ⟨(h.kept h1).kept h2, hown.alloc _, fun j hj g hg e => ?_, ?_, ?_, Below.step (Below.step hb h1) h2⟩
  · have h3 := (World.ownsRow.lt (h.inner j hj) g hg).2
    simp [Value.ownBlock] at e
    omega
  · have h4 := (Box.new (wr.alloc (.cells #[.int .i64 p, .int .i64 k] 3)) 36 #[.slice (some ⟨wr.heap.size, 0, none⟩) 2 2]).cell 0
    rw [show (wr.alloc (.cells #[.int .i64 p, .int .i64 k] 3)).heap.size = wr.heap.size + 1 from by simp] at h4
    rw [Addr.add_zero']
    exact h4
  · show base ≤ ((wr.alloc _).alloc _).heap.size
    simp
    omega

/-- A call that hands back new rows and a bool. -/
def GivesSSOk (w : World) (L : List (List Int)) (ok : Bool) (e : Ending) (w' : World) : Prop :=
  ∃ A c vs, e = .returned (.tuple #[.slice A L.length c, .bool ok]) ∧ SS w' w.heap.size (.slice A L.length c) L vs ∧ Below w.heap.size w w'
def GivesSS (w : World) (L : List (List Int)) (e : Ending) (w' : World) : Prop :=
  ∃ A c vs, e = .returned (.slice A L.length c) ∧ SS w' w.heap.size (.slice A L.length c) L vs ∧ Below w.heap.size w w'
theorem below_ss {w0 w w' : World} {base : Nat} {v : Value} {L : List (List Int)} {vs : List Value} (hb : Below w0.heap.size w0 w) (hs : SS w base v L vs) (hbase : w0.heap.size ≤ base) (hg : w.grownBy w' v.ownBlock) : Below w0.heap.size w0 w' :=
  hb.grown hg hb.size (fun k hk => by have := (World.ownsRow.lt hs.outer k hk).1; omega)
end Go.Proofs.Ytbgoiflkpefckaa
