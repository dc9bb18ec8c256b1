/- Words for memory for chapter 4, over XMem: Box.four, what calls over cubics hand back, CuG (own work). -/
import Derived.Test.YtchglkcfolannabDoorMem
namespace Go.Proofs.YtchglkcfolannabDoor
open Go.RowKit Go.Joins

theorem Below.drewN' {B : Nat} {a w : World} (h : Below B a w) (n : Nat) : Below B a (w.drewN n) := h.trans ⟨rfl, rfl, rfl, Nat.le_refl _, fun _ _ => rfl⟩

theorem Box.four {w : World} {g : Nat} {t : TypeId} {a b c d : Value} (h : Box w g t #[a, b, c, d]) : w.cell? ⟨g, 0, none⟩ = some a ∧ w.cell? ⟨g, 1, none⟩ = some b ∧ w.cell? ⟨g, 2, none⟩ = some c ∧ w.cell? ⟨g, 3, none⟩ = some d := ⟨h.cell 0, h.cell 1, h.cell 2, h.cell 3⟩

def GivesB (w : World) (ok : Bool) (e : Ending) (w' : World) : Prop := e = .returned (.bool ok) ∧ Below w.heap.size w w'
def GivesI (w : World) (z : Int) (e : Ending) (w' : World) : Prop := e = .returned (.int .i64 z) ∧ Below w.heap.size w w'
def GivesIB (w : World) (z : Int) (ok : Bool) (e : Ending) (w' : World) : Prop := e = .returned (.tuple #[.int .i64 z, .bool ok]) ∧ Below w.heap.size w w'
def GivesBB (w : World) (b ok : Bool) (e : Ending) (w' : World) : Prop := e = .returned (.tuple #[.bool b, .bool ok]) ∧ Below w.heap.size w w'
def GivesF (w : World) (p q : Int) (e : Ending) (w' : World) : Prop := e = .returned (.agg #[.int .i64 p, .int .i64 q]) ∧ Below w.heap.size w w'
def GivesFB (w : World) (p q : Int) (ok : Bool) (e : Ending) (w' : World) : Prop := e = .returned (.tuple #[.agg #[.int .i64 p, .int .i64 q], .bool ok]) ∧ Below w.heap.size w w'
def GivesIFB (w : World) (z p q : Int) (ok : Bool) (e : Ending) (w' : World) : Prop := e = .returned (.tuple #[.int .i64 z, .agg #[.int .i64 p, .int .i64 q], .bool ok]) ∧ Below w.heap.size w w'
/-- A cubic as a value; a call that hands one back, or one and a bool. -/
def cuV (a b c d : Int) : Value := .agg #[.int .i64 a, .int .i64 b, .int .i64 c, .int .i64 d]
def GivesCB (w : World) (a b c d : Int) (ok : Bool) (e : Ending) (w' : World) : Prop := e = .returned (.tuple #[.agg #[.int .i64 a, .int .i64 b, .int .i64 c, .int .i64 d], .bool ok]) ∧ Below w.heap.size w w'
/-- A cubic that is valid. -/
def CuG (a b c d : Int) : Prop := a ≠ 0 ∧ (-1000 ≤ a ∧ a ≤ 1000) ∧ (-1000 ≤ b ∧ b ≤ 1000) ∧ (-1000 ≤ c ∧ c ≤ 1000) ∧ (-1000 ≤ d ∧ d ≤ 1000)
instance (a b c d : Int) : Decidable (CuG a b c d) := by unfold CuG; infer_instance
end Go.Proofs.YtchglkcfolannabDoor
