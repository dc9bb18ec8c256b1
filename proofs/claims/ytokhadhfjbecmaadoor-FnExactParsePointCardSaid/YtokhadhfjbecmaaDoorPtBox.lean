/- What calls over points hand back; words for memory (own work). -/
import Derived.Test.YtokhadhfjbecmaaDoorEcBox
import Derived.Test.YtokhadhfjbecmaaDoorPtMath
import Derived.Test.YtokhadhfjbecmaaDoorCiGcd
namespace Go.Proofs.YtokhadhfjbecmaaDoor
open Go.RowKit Go.Joins

theorem Box.three {w : World} {g : Nat} {t : TypeId} {a b c : Value} (h : Box w g t #[a, b, c]) : w.cell? ⟨g, 0, none⟩ = some a ∧ w.cell? ⟨g, 1, none⟩ = some b ∧ w.cell? ⟨g, 2, none⟩ = some c := ⟨h.cell 0, h.cell 1, h.cell 2⟩
def GivesP (w : World) (x y z : Int) (e : Ending) (w' : World) : Prop := e = .returned (.agg #[.int .i64 x, .int .i64 y, .int .i64 z]) ∧ Below w.heap.size w w'
def GivesPB (w : World) (x y z : Int) (ok : Bool) (e : Ending) (w' : World) : Prop := e = .returned (.tuple #[.agg #[.int .i64 x, .int .i64 y, .int .i64 z], .bool ok]) ∧ Below w.heap.size w w'
theorem below_sets3 {w0 w : World} {g : Nat} (h : Below w0.heap.size w0 w) (hg : w0.heap.size ≤ g) (u v z : Value) : Below w0.heap.size w0 (((w.setCell ⟨g, 0, none⟩ u).setCell ⟨g, 1, none⟩ v).setCell ⟨g, 2, none⟩ z) :=
  ((h.setCell hg _).setCell hg _).setCell hg _
theorem below_dr (w : World) (n : Nat) : Below w.heap.size w (w.drewN n) := Below.drewN' (Below.refl _ _) n
theorem qleft {P : Program} {f : FuncId} {args : Array Value} {w : World} {n : Nat} {v : Value}
    (h : Calls P f args (w.drewN n) fun e w' => e = .returned v ∧ w.drewN n = w') : Calls P f args (w.drewN n) fun e w'' => e = .returned v ∧ ∃ m, w'' = w.drewN m :=
  h.mono fun _ _ ⟨he, hm⟩ => ⟨he, n, hm.symm⟩
theorem gcdS_any (x e : Int) (w : World) (hx : -4000000000000000000 ≤ x ∧ x ≤ 4000000000000000000) (he : 0 ≤ e ∧ e ≤ 4000000000000000000) (G : Nat) (hG : Nat.gcd x.natAbs e.natAbs = G) :
    Calls Tryd.prog 42 #[.int .i64 ((x.natAbs : Nat) : Int), .int .i64 e] w fun e w' => e = .returned (.int .i64 (G : Int)) ∧ w = w' := by
  have := bgCommon_any x.natAbs e.natAbs w (by omega) (by omega)
  rw [hG, show ((e.natAbs : Nat) : Int) = e from by omega] at this
  exact this
theorem gcdI_any (x e : Int) (w : World) (hx : -4000000000000000000 ≤ x ∧ x ≤ 4000000000000000000) (he : 0 ≤ e ∧ e ≤ 4000000000000000000) (G : Nat) (hG : Nat.gcd x.natAbs e.natAbs = G) :
    Calls Tryd.prog 46 #[.int .i64 ((x.natAbs : Nat) : Int), .int .i64 e] w (GivesI w (G : Int)) := by
  have := commonDivisor_any x.natAbs e.natAbs w (by omega) (by omega)
  rw [hG, show ((e.natAbs : Nat) : Int) = e from by omega] at this
  exact this
end Go.Proofs.YtokhadhfjbecmaaDoor
