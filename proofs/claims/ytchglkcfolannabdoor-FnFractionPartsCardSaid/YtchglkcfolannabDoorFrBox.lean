/- The table of limits, where XMem and XCuBox are the words for memory (in the place of XFrBox at such a seat). -/
import Derived.Test.YtchglkcfolannabDoorCuBox
namespace Go.Proofs.YtchglkcfolannabDoor
open Go.RowKit Go.Joins

/-- The table of limits reads as it was laid. -/
def Lim (w : World) : Prop := w.cell? ⟨0, 0, none⟩ = some (.int .i64 1000000000) ∧ w.cell? ⟨0, 1, none⟩ = some (.int .i64 1000000000000000000) ∧ w.cell? ⟨0, 2, none⟩ = some (.int .i64 1000)
theorem Lim.lt {w : World} (h : Lim w) : 0 < w.heap.size := World.block_lt_of_cell? w ⟨0, 0, none⟩ h.1
theorem Lim.kept {w w' : World} (h : Lim w) (hb : Below w.heap.size w w') : Lim w' :=
  ⟨(hb.cell (p := ⟨_, 0, none⟩) h.lt).trans h.1, (hb.cell (p := ⟨_, 1, none⟩) h.lt).trans h.2.1, (hb.cell (p := ⟨_, 2, none⟩) h.lt).trans h.2.2⟩
theorem Lim.alloc {w : World} (h : Lim w) (o : Obj) : Lim (w.alloc o) := h.kept (below_alloc1 w o)
theorem Lim.drewN {w : World} (h : Lim w) (n : Nat) : Lim (w.drewN n) := h

end Go.Proofs.YtchglkcfolannabDoor
