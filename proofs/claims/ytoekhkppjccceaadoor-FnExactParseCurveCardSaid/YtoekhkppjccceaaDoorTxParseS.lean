/- frParse of the model (written by wip/gen/txparses.py). -/
import Derived.Test.YtoekhkppjccceaaDoorTxCut
namespace Go.Proofs.YtoekhkppjccceaaDoor
open Go.RowKit Go.Joins

theorem box_apart {w : World} {g g' : Nat} {t : TypeId} {cs : Array Value} (h : Box w g t cs) (hne : g ≠ g') (i : Nat) (u : Value) : Box (w.setCell ⟨g', i, none⟩ u) g t cs := by
  unfold Box at h ⊢
  rw [← h]
  exact Below.heap_setCell w ⟨g', i, none⟩ u g hne
theorem ba_inj {a b : ByteArray} (h : a.toList = b.toList) : a = b := by
  rw [ByteArray.toList_eq, ByteArray.toList_eq] at h
  exact ByteArray.ext (Array.toList_inj.1 h)

/-- A cell of the slice. -/
def Cl (w : World) (g i : Nat) (s : ByteArray) : Prop := g < w.heap.size ∧ w.cell? ⟨g, i, none⟩ = some (.string s)
theorem Cl.kept {w w' : World} {g i : Nat} {s : ByteArray} (h : Cl w g i s) (hb : Below w.heap.size w w') : Cl w' g i s := ⟨Nat.lt_of_lt_of_le h.1 hb.size, (hb.cell (p := ⟨g, i, none⟩) h.1).trans h.2⟩
theorem Cl.far {w : World} {g i g' j : Nat} {s : ByteArray} {u : Value} (h : Cl w g i s) (hne : g ≠ g') : Cl (w.setCell ⟨g', j, none⟩ u) g i s := ⟨by simp; exact h.1, (World.cell?_setCell_far w ⟨g', j, none⟩ ⟨g, i, none⟩ u (fun e => hne e.symm)).trans h.2⟩

theorem split1 (s a : ByteArray) (hs : s.size ≤ 1048576) (h : splitAll s 32 = [a]) (w : World) :
    Calls Tryd.prog 23 #[.string s, .int .u8 32] w fun e w' => ∃ g c, e = .returned (.slice (some ⟨g, 0, none⟩) 1 c) ∧ w.heap.size ≤ g ∧ Cl w' g 0 a ∧ Below w.heap.size w w' := by
  refine (l1Split_any s 32 w hs).mono ?_
  rintro e w' ⟨A, c, he, ho, hb⟩
  rw [h] at he ho
  obtain ⟨A', c', e1, hf⟩ := ho.form
  obtain ⟨g, e2, hg, hc⟩ := hf (by simp)
  simp only [Value.slice.injEq] at e1
  have e3 : A = some ⟨g, 0, none⟩ := e1.1.trans e2
  subst e3
  exact ⟨g, c, he, (World.ownsRow.lt ho g rfl).1, ⟨hg, hc 0 a rfl⟩, hb⟩
theorem split2 (s a b : ByteArray) (hs : s.size ≤ 1048576) (h : splitAll s 32 = [a, b]) (w : World) :
    Calls Tryd.prog 23 #[.string s, .int .u8 32] w fun e w' => ∃ g c, e = .returned (.slice (some ⟨g, 0, none⟩) 2 c) ∧ w.heap.size ≤ g ∧ Cl w' g 0 a ∧ Cl w' g 1 b ∧ Below w.heap.size w w' := by
  refine (l1Split_any s 32 w hs).mono ?_
  rintro e w' ⟨A, c, he, ho, hb⟩
  rw [h] at he ho
  obtain ⟨A', c', e1, hf⟩ := ho.form
  obtain ⟨g, e2, hg, hc⟩ := hf (by simp)
  simp only [Value.slice.injEq] at e1
  have e3 : A = some ⟨g, 0, none⟩ := e1.1.trans e2
  subst e3
  exact ⟨g, c, he, (World.ownsRow.lt ho g rfl).1, ⟨hg, hc 0 a rfl⟩, ⟨hg, hc 1 b rfl⟩, hb⟩
theorem splitN (s : ByteArray) (hs : s.size ≤ 1048576) (w : World) :
    Calls Tryd.prog 23 #[.string s, .int .u8 32] w fun e w' => ∃ A c, e = .returned (.slice A (splitAll s 32).length c) ∧ Below w.heap.size w w' :=
  (l1Split_any s 32 w hs).mono fun _ _ ⟨A, c, he, _, hb⟩ => ⟨A, c, he, hb⟩

end Go.Proofs.YtoekhkppjccceaaDoor
