/- What calls over curves hand back; words for memory (own work). -/
import Derived.Test.YtchglkcfolannabDoorCuBox
import Derived.Test.YtchglkcfolannabDoorEcMath
namespace Go.Proofs.YtchglkcfolannabDoor
open Go.RowKit Go.Joins

theorem Box.one {w : World} {g : Nat} {t : TypeId} {v : Value} (h : Box w g t #[v]) : w.cell? ⟨g, 0, none⟩ = some v := h.cell 0
def GivesII (w : World) (p q : Int) (e : Ending) (w' : World) : Prop := e = .returned (.tuple #[.int .i64 p, .int .i64 q]) ∧ Below w.heap.size w w'
def GivesIIB (w : World) (p q : Int) (ok : Bool) (e : Ending) (w' : World) : Prop := e = .returned (.tuple #[.int .i64 p, .int .i64 q, .bool ok]) ∧ Below w.heap.size w w'
def GivesFI (w : World) (p q u : Int) (e : Ending) (w' : World) : Prop := e = .returned (.tuple #[.agg #[.int .i64 p, .int .i64 q], .int .i64 u]) ∧ Below w.heap.size w w'
def GivesFIB (w : World) (p q u : Int) (ok : Bool) (e : Ending) (w' : World) : Prop := e = .returned (.tuple #[.agg #[.int .i64 p, .int .i64 q], .int .i64 u, .bool ok]) ∧ Below w.heap.size w w'
theorem below_sets2 {w0 w : World} {g : Nat} (h : Below w0.heap.size w0 w) (hg : w0.heap.size ≤ g) (u v : Value) : Below w0.heap.size w0 ((w.setCell ⟨g, 0, none⟩ u).setCell ⟨g, 1, none⟩ v) :=
  (h.setCell hg _).setCell hg _
end Go.Proofs.YtchglkcfolannabDoor
