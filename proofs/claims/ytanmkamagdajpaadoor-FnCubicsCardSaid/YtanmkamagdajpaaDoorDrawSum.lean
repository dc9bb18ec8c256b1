/- DrawSumOf, DrawFractionOf: loose contracts. -/
import Derived.Test.YtanmkamagdajpaaDoorDrawAny
namespace Go.Proofs.YtanmkamagdajpaaDoor
open Go.RowKit Go.Joins

/-- Two fractions whose parts are ints. -/
def GivesDrawFF (w : World) (e : Ending) (w' : World) : Prop :=
  ∃ p0 q0 p1 q1 : Int, (-9223372036854775808 ≤ p0 ∧ p0 ≤ 9223372036854775807) ∧ (-9223372036854775808 ≤ q0 ∧ q0 ≤ 9223372036854775807) ∧ (-9223372036854775808 ≤ p1 ∧ p1 ≤ 9223372036854775807) ∧ (-9223372036854775808 ≤ q1 ∧ q1 ≤ 9223372036854775807) ∧
    e = .returned (.tuple #[.agg #[.int .i64 p0, .int .i64 q0], .agg #[.int .i64 p1, .int .i64 q1]]) ∧ Below w.heap.size w w'

/-- A cursor that has just been made. -/
theorem cur_new (w : World) (A : Option Addr) (n c : Nat) : Cur (w.alloc (.cells #[.slice A n c, .int .i64 0, .int .u64 0] 47)) w.heap.size A n c 0 := ⟨0, 0, Box.new w _ _, Nat.le_refl _, by omega, by omega⟩
/-- What has turned behind the making of the cursor: nothing that was there. -/
theorem Dg.below {w w1 wf : World} {g n c T : Nat} {A : Option Addr} (h : Dg w1 wf g A n c T) (hb : Below w.heap.size w w1) (hg : w.heap.size ≤ g) : Below w.heap.size w wf :=
  hb.grown h.gr hb.size (fun k hk => by cases hk; exact hg)

theorem pair_end {w : World} {B B1 : Nat} {x0 y0 x1 y1 : Value} (h2 : Box w B 36 #[x0, y0]) (h3 : Box w B1 36 #[x1, y1]) (hne : B ≠ B1) (p0 q0 p1 q1 : Value) :
    Box ((((w.setCell ⟨B, 0, none⟩ p0).setCell ⟨B, 1, none⟩ q0).setCell ⟨B1, 0, none⟩ p1).setCell ⟨B1, 1, none⟩ q1) B 36 #[p0, q0] ∧
    Box ((((w.setCell ⟨B, 0, none⟩ p0).setCell ⟨B, 1, none⟩ q0).setCell ⟨B1, 0, none⟩ p1).setCell ⟨B1, 1, none⟩ q1) B1 36 #[p1, q1] :=
  ⟨(((h2.set 0 p0).set 1 q0).apart hne 0 p1).apart hne 1 q1, (((h3.apart (Ne.symm hne) 0 p0).apart (Ne.symm hne) 1 q0).set 0 p1).set 1 q1⟩
theorem below_drew {B : Nat} {a w : World} (h : Below B a w) : Below B a w.drew := ⟨h.os, h.tape, h.output, h.size, h.block⟩
theorem below_pair {w : World} {N B B1 : Nat} (hB : N ≤ B) (hB1 : N ≤ B1) (p0 q0 p1 q1 : Value) : Below N w ((((w.setCell ⟨B, 0, none⟩ p0).setCell ⟨B, 1, none⟩ q0).setCell ⟨B1, 0, none⟩ p1).setCell ⟨B1, 1, none⟩ q1) :=
  (below_sets hB 0 1 p0 q0).trans (below_sets hB1 0 1 p1 q1)

/-- Two ints. -/
def GivesDrawII (w : World) (e : Ending) (w' : World) : Prop :=
  ∃ z0 z1 : Int, (-9223372036854775808 ≤ z0 ∧ z0 ≤ 9223372036854775807) ∧ (-9223372036854775808 ≤ z1 ∧ z1 ≤ 9223372036854775807) ∧ e = .returned (.tuple #[.int .i64 z0, .int .i64 z1]) ∧ Below w.heap.size w w'

end Go.Proofs.YtanmkamagdajpaaDoor
