/- The law's own helpers on rows of points: equal, marked, held (own work). -/
import Derived.Test.YtokhadhfjbecmaaDoorPRow
import Derived.Test.YtokhadhfjbecmaaDoorPtLaw0
import Derived.Test.YtokhadhfjbecmaaDoorMark
import Derived.StillTailTactics
namespace Go.Proofs.YtokhadhfjbecmaaDoor
open Go.RowKit Go.Joins

/-- The slice reads as so many points, whose numbers are zs. -/
def RdZ3 (w : World) (B : Nat) (A : Option Addr) (n : Nat) (zs : List Int) : Prop := 0 < n → ∃ b o, A = some ⟨b, o, none⟩ ∧ b < B ∧ ∀ j, j < 3 * n → w.cell? ⟨b, o + j, none⟩ = some (.int .i64 (zs[j]?.getD 0))
theorem RdZ3.kept {w w' : World} {A : Option Addr} {n : Nat} {zs : List Int} (h : RdZ3 w w.heap.size A n zs) (hb : Below w.heap.size w w') : RdZ3 w' w'.heap.size A n zs := by
  intro hn
  obtain ⟨b, o, rfl, hB, hc⟩ := h hn
  exact ⟨b, o, rfl, Nat.lt_of_lt_of_le hB hb.size, fun k hk => (hb.cell (p := ⟨b, o + k, none⟩) hB).trans (hc k hk)⟩
theorem RdP.aside {w w' : World} {B lo : Nat} {A : Option Addr} {n : Nat} {L M : List P3} {v : Value} (h : RdP w B A n L) (ho : OwnP w lo v M) (hB : B ≤ lo) (hg : w.grownBy w' v.ownBlock) : RdP w' B A n L := by
  refine ⟨h.1, fun hn => ?_⟩
  obtain ⟨b, o, rfl, hb, hc⟩ := h.2 hn
  refine ⟨b, o, rfl, hb, fun k hk => hg.cell (hc k hk) fun e => ?_⟩
  have := (World.ownsRow.lt ho b e.symm).1
  omega

theorem marked_at1 (xs : List Int) (k : Int) (i : Nat) (h : i + 1 < xs.length) : (marked xs k i)[i + 1]? = some (.int .i64 (xs[i + 1]?.getD 0)) := by
  unfold marked
  rw [List.getElem?_append_right (by simp [marks_length])]
  simp [marks_length, h, List.getElem?_drop]

theorem rdZ3_of {w : World} {base : Nat} {A : Option Addr} {n c : Nat} {zs : List Int} (h : w.ownsRow base 30 3 (.slice A n c) n (zs.map (Value.int .i64))) : RdZ3 w w.heap.size A n zs := by
  intro hn
  obtain ⟨g, cap, hv⟩ := ownsRow_form h hn
  simp only [Value.slice.injEq] at hv
  obtain ⟨rfl, _, rfl⟩ := hv
  refine ⟨g, 0, rfl, (World.ownsRow.lt h g rfl).2, fun j hj => ?_⟩
  have hl := h.1
  rw [List.length_map] at hl
  rw [Nat.zero_add, h.cellAt j (by omega), List.getElem?_map, List.getElem?_eq_getElem (by omega)]
  simp

end Go.Proofs.YtokhadhfjbecmaaDoor
