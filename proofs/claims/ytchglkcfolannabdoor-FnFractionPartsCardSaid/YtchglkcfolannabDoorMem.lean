/-
  WORDS FOR MEMORY (own work): a slice of ints that is read; one that the call owns.
-/
import Derived.Test.YtchglkcfolannabDoorRows
import Derived.WalkKit
import Derived.WalkSpells
import Derived.WalkLawsBesides
import Derived.Lib.SmallJoins
import Derived.Lib.Hide
namespace Go.Proofs.YtchglkcfolannabDoor
open Go.RowKit Go.Joins

/-- The slice '.slice A n c' reads as the ints xs, in blocks below B. -/
def Rd (w : World) (B : Nat) (A : Option Addr) (n : Nat) (xs : List Int) : Prop :=
  xs.length = n ∧ (0 < n → ∃ b o, A = some ⟨b, o, none⟩ ∧ b < B ∧ ∀ k, k < n → w.cell? ⟨b, o + k, none⟩ = some (.int .i64 (xs[k]?.getD 0)))

theorem Rd.below {w w' : World} {B : Nat} {A : Option Addr} {n : Nat} {xs : List Int} (h : Rd w B A n xs) (hb : Below B w w') : Rd w' B A n xs := by
  refine ⟨h.1, fun hn => ?_⟩
  obtain ⟨b, o, rfl, hB, hc⟩ := h.2 hn
  exact ⟨b, o, rfl, hB, fun k hk => (hb.cell (p := ⟨b, o + k, none⟩) hB).trans (hc k hk)⟩

theorem Rd.more {w : World} {B B' : Nat} {A : Option Addr} {n : Nat} {xs : List Int} (h : Rd w B A n xs) (hB : B ≤ B') : Rd w B' A n xs := by
  refine ⟨h.1, fun hn => ?_⟩
  obtain ⟨b, o, rfl, hb, hc⟩ := h.2 hn
  exact ⟨b, o, rfl, by omega, hc⟩

/-- The slice value v owns the ints xs, in a block from 'base' on. -/
def Own (w : World) (base : Nat) (v : Value) (xs : List Int) : Prop := w.ownsRow base 3 1 v xs.length (xs.map (Value.int .i64))

theorem Own.form {w : World} {base : Nat} {v : Value} {xs : List Int} (h : Own w base v xs) : ∃ A c, v = .slice A xs.length c ∧ Rd w w.heap.size A xs.length xs := by
  have h0 := h
  rcases h.2 with ⟨rfl, hn⟩ | ⟨g, cap, cur, rfl, hb, hg, hnc, hcm, hs, ht⟩
  · refine ⟨none, 0, by rw [hn], rfl, fun hp => by omega⟩
  · refine ⟨some ⟨g, 0, none⟩, cap, rfl, rfl, fun hp => ⟨g, 0, rfl, (Array.getElem?_eq_some_iff.1 hg).1, fun k hk => ?_⟩⟩
    rw [Nat.zero_add]
    have := World.ownsRow.cellAt h0 k (by omega)
    rw [this, List.getElem?_map, List.getElem?_eq_getElem hk]
    simp

theorem Own.below {w w' : World} {base B : Nat} {v : Value} {xs : List Int} (h : Own w base v xs) (hb : Below B w w') (hB : w.heap.size ≤ B) : Own w' base v xs := by
  refine ⟨h.1, ?_⟩
  rcases h.2 with h2 | ⟨g, cap, cur, hv, hg, hh, r⟩
  · exact .inl h2
  · exact .inr ⟨g, cap, cur, hv, hg, by rw [hb.block g (by have := (Array.getElem?_eq_some_iff.1 hh).1; omega)]; exact hh, r⟩

theorem Own.le {w : World} {base base' : Nat} {v : Value} {xs : List Int} (h : Own w base v xs) (hb : base' ≤ base) : Own w base' v xs := ownsRow_le h hb

/-- While a row is being filled: the first k are the ints of xs, the others are 0. -/
def filled (xs : List Int) (k : Nat) : List Value := (xs.take k).map (Value.int .i64) ++ List.replicate (xs.length - k) (.int .i64 0)

theorem filled_zero (xs : List Int) : filled xs 0 = (madeCells (Value.int .i64 0).cells (xs.length * 1)).toList := by
  show _ = (madeCells #[Value.int .i64 0] (xs.length * 1)).toList
  rw [toList_madeCells_one]
  simp [filled]

theorem filled_all (xs : List Int) : filled xs xs.length = xs.map (Value.int .i64) := by simp [filled]

theorem filled_at (xs : List Int) (k : Nat) (h : k < xs.length) : (filled xs k)[k]? = some (.int .i64 0) := by
  unfold filled
  rw [List.getElem?_append_right (by simp; omega)]
  simp [List.getElem?_replicate]
  omega

theorem filled_set (xs : List Int) (k : Nat) (h : k < xs.length) : (filled xs k).set k (.int .i64 (xs[k]?.getD 0)) = filled xs (k + 1) := by
  have e : xs[k]?.getD 0 = xs[k] := by simp [List.getElem?_eq_getElem h]
  unfold filled
  rw [List.set_append_right _ _ (by simp; omega), e, List.take_succ_eq_append_getElem h, List.map_append, List.append_assoc]
  congr 1
  have h1 : xs.length - k = (xs.length - (k + 1)) + 1 := by omega
  have h2 : k - (List.map (Value.int .i64) (List.take k xs)).length = 0 := by simp; omega
  rw [h1, List.replicate_succ, h2]
  rfl

/-- A call that hands back a new slice of ints. -/
def GivesOwn (w : World) (xs : List Int) (e : Ending) (w' : World) : Prop := ∃ A c, e = .returned (.slice A xs.length c) ∧ Own w' w.heap.size (.slice A xs.length c) xs ∧ Below w.heap.size w w'

/-- A call that hands back a new whole: its sign and its limbs. -/
def GivesWhole (w : World) (neg : Bool) (xs : List Int) (e : Ending) (w' : World) : Prop := ∃ A c, e = .returned (.agg #[.bool neg, .slice A xs.length c]) ∧ Own w' w.heap.size (.slice A xs.length c) xs ∧ Below w.heap.size w w'

theorem Own.rd {w : World} {base : Nat} {A : Option Addr} {c : Nat} {xs : List Int} (h : Own w base (.slice A xs.length c) xs) : Rd w w.heap.size A xs.length xs := by
  obtain ⟨A', c', he, hr⟩ := h.form
  simp only [Value.slice.injEq] at he
  rw [he.1]; exact hr

theorem Own.set_below {w : World} {base : Nat} {v : Value} {xs : List Int} (h : Own w base v xs) {a : Addr} (ha : a.block < base) (u : Value) : Own (w.setCell a u) base v xs := ownsRow_setCell_below h ha u

theorem Own.alloc {w : World} {base : Nat} {v : Value} {xs : List Int} (h : Own w base v xs) (o : Obj) : Own (w.alloc o) base v xs := World.ownsRow.alloc h o

theorem below_of_draws {B : Nat} {w w' : World} (h : Below B w w') (n : Nat) : Below B w (w'.drewN n) := below_drewN h n

/-- k, k + 1, .., n of them. -/
def marks (k : Int) (n : Nat) : List Int := (List.range n).map (fun (j : Nat) => k + (j : Int))

theorem marks_length (k : Int) (n : Nat) : (marks k n).length = n := by simp [marks]
theorem marks_at (k : Int) (n i : Nat) (h : i < n) : (marks k n)[i]?.getD 0 = k + i := by simp [marks, List.getElem?_range h]
theorem marks_succ (k : Int) (n : Nat) : marks k (n + 1) = marks k n ++ [k + n] := by simp [marks, List.range_succ]

/-- While a row is being marked. -/
def marked (xs : List Int) (k : Int) (i : Nat) : List Value := (marks k i).map (Value.int .i64) ++ (xs.drop i).map (Value.int .i64)
theorem marked_zero (xs : List Int) (k : Int) : marked xs k 0 = xs.map (Value.int .i64) := by simp [marked, marks]
theorem marked_all (xs : List Int) (k : Int) : marked xs k xs.length = (marks k xs.length).map (Value.int .i64) := by simp [marked]
theorem marked_at (xs : List Int) (k : Int) (i : Nat) (h : i < xs.length) : (marked xs k i)[i]? = some (.int .i64 (xs[i]?.getD 0)) := by
  unfold marked
  rw [List.getElem?_append_right (by simp [marks_length])]
  simp [marks_length, h]
theorem marked_set (xs : List Int) (k : Int) (i : Nat) (h : i < xs.length) : (marked xs k i).set i (.int .i64 (k + i)) = marked xs k (i + 1) := by
  unfold marked
  rw [List.set_append_right _ _ (by simp [marks_length]), marks_succ, List.map_append, List.append_assoc]
  congr 1
  have h2 : i - (List.map (Value.int .i64) (marks k i)).length = 0 := by simp [marks_length]
  rw [h2, List.drop_eq_getElem_cons h]
  rfl

theorem grown_more {a b c : World} {row : Option Nat} {g : Nat} (h : a.grownBy b row) (k : b.grownBy c (some g)) (hr : row = some g := by rfl) : a.grownBy c row :=
  ⟨k.os.trans h.os, k.tape.trans h.tape, k.output.trans h.output, Nat.le_trans h.size k.size, fun i hi hne => (k.block i (Nat.lt_of_lt_of_le hi h.size) (by rw [← hr]; exact hne)).trans (h.block i hi hne)⟩

theorem grown_trans {a b c : World} {row : Option Nat} (h : a.grownBy b row) (k : b.grownBy c row) : a.grownBy c row :=
  ⟨k.os.trans h.os, k.tape.trans h.tape, k.output.trans h.output, Nat.le_trans h.size k.size, fun i hi hne => (k.block i (Nat.lt_of_lt_of_le hi h.size) hne).trans (h.block i hi hne)⟩

/-- Block g is just these cells. -/
def Box (w : World) (g : Nat) (t : TypeId) (cs : Array Value) : Prop := w.heap[g]? = some (.cells cs t (0, 0))

theorem Box.lt {w : World} {g : Nat} {t : TypeId} {cs : Array Value} (h : Box w g t cs) : g < w.heap.size := (Array.getElem?_eq_some_iff.1 h).1
theorem Box.keep {w w' : World} {B g : Nat} {t : TypeId} {cs : Array Value} (h : Box w g t cs) (hb : Below B w w') (hg : g < B) : Box w' g t cs := (hb.block g hg).trans h
theorem Box.kept {w w' : World} {g : Nat} {t : TypeId} {cs : Array Value} (h : Box w g t cs) (hb : Below w.heap.size w w') : Box w' g t cs := h.keep hb h.lt
theorem Box.grown {w w' : World} {g : Nat} {row : Option Nat} {t : TypeId} {cs : Array Value} (h : Box w g t cs) (hb : w.grownBy w' row) (hg : some g ≠ row) : Box w' g t cs := (hb.block g h.lt hg).trans h
theorem Box.new (w : World) (t : TypeId) (cs : Array Value) : Box (w.alloc (.cells cs t)) w.heap.size t cs := heap_alloc_new w _
theorem Box.cell {w : World} {g : Nat} {t : TypeId} {cs : Array Value} (h : Box w g t cs) (i : Nat) : w.cell? ⟨g, i, none⟩ = cs[i]? := cell_of_row w g i cs t (0, 0) h
theorem Box.two {w : World} {g : Nat} {t : TypeId} {u v : Value} (h : Box w g t #[u, v]) : w.cell? ⟨g, 0, none⟩ = some u ∧ w.cell? ⟨g, 1, none⟩ = some v := ⟨h.cell 0, h.cell 1⟩
theorem Box.free {w : World} {g : Nat} {t : TypeId} {cs : Array Value} (h : Box w g t cs) (i : Nat) : w.frozen? ⟨g, i, none⟩ = false := by
  unfold Box at h
  simp [World.frozen?, h]
theorem Own.kept {w w' : World} {base : Nat} {v : Value} {xs : List Int} (h : Own w base v xs) (hb : Below w.heap.size w w') : Own w' base v xs := h.below hb (Nat.le_refl _)
theorem Rd.kept {w w' : World} {A : Option Addr} {n : Nat} {xs : List Int} (h : Rd w w.heap.size A n xs) (hb : Below w.heap.size w w') : Rd w' w'.heap.size A n xs := (h.below hb).more hb.size
theorem Below.step {w0 w w' : World} (h : Below w0.heap.size w0 w) (hb : Below w.heap.size w w') : Below w0.heap.size w0 w' := h.trans (hb.mono h.size)

/-- The slice value v owns the ints xs, in a block from lo on and below hi. -/
structure OwnI (w : World) (lo hi : Nat) (v : Value) (xs : List Int) : Prop where
  own : Own w lo v xs
  hi_ : ∀ g, v.ownBlock = some g → g < hi
  le : hi ≤ w.heap.size

theorem Own.I {w : World} {lo : Nat} {v : Value} {xs : List Int} (h : Own w lo v xs) : OwnI w lo w.heap.size v xs := ⟨h, fun g hg => (World.ownsRow.lt h g hg).2, Nat.le_refl _⟩
theorem OwnI.kept {w w' : World} {lo hi : Nat} {v : Value} {xs : List Int} (h : OwnI w lo hi v xs) (hb : Below w.heap.size w w') : OwnI w' lo hi v xs := ⟨h.own.kept hb, h.hi_, Nat.le_trans h.le hb.size⟩
theorem OwnI.aside {w w' : World} {lo hi lo' hi' : Nat} {v v' : Value} {xs ys : List Int} (h : OwnI w lo hi v xs) (h' : OwnI w lo' hi' v' ys) (hg : w.grownBy w' v'.ownBlock) (hd : hi ≤ lo' ∨ hi' ≤ lo) : OwnI w' lo hi v xs := by
  refine ⟨World.ownsRow.kept h.own hg ?_, h.hi_, Nat.le_trans h.le hg.size⟩
  rcases hv : v.ownBlock with _ | g
  · exact .inl rfl
  · refine .inr fun e => ?_
    have h1 := h.hi_ g hv
    have h2 := (World.ownsRow.lt h.own g hv).1
    have h3 := h'.hi_ g e.symm
    have h4 := (World.ownsRow.lt h'.own g e.symm).1
    omega
theorem OwnI.rd {w : World} {lo hi : Nat} {A : Option Addr} {c : Nat} {xs : List Int} (h : OwnI w lo hi (.slice A xs.length c) xs) : Rd w w.heap.size A xs.length xs := h.own.rd
/-- What the marking of a row leaves as it was below the row. -/
theorem OwnI.below {w w' w0 : World} {lo hi : Nat} {v : Value} {xs : List Int} (h : OwnI w lo hi v xs) (hg : w.grownBy w' v.ownBlock) (h0 : Below w0.heap.size w0 w) (hlo : w0.heap.size ≤ lo) : Below w0.heap.size w0 w' :=
  h0.grown hg h0.size (fun k hk => by have := (World.ownsRow.lt h.own k hk).1; omega)
theorem Box.aside {w w' : World} {g lo hi : Nat} {t : TypeId} {cs : Array Value} {v : Value} {xs : List Int} (h : Box w g t cs) (h' : OwnI w lo hi v xs) (hg : w.grownBy w' v.ownBlock) (ht : t ≠ 3) : Box w' g t cs := by
  refine h.grown hg fun e => ?_
  rcases h'.own.2 with ⟨rfl, _⟩ | ⟨g', cap, cur, rfl, _, hh, _⟩
  · simp [Value.ownBlock] at e
  · have e2 : g = g' := by simpa [Value.ownBlock] using e
    subst e2
    unfold Box at h
    rw [h] at hh
    injection hh with hh
    injection hh with _ hh
    exact ht hh

/-- A call that hands back a new whole and a bool. -/
def GivesWholeOk (w : World) (neg : Bool) (xs : List Int) (ok : Bool) (e : Ending) (w' : World) : Prop :=
  ∃ A c, e = .returned (.tuple #[.agg #[.bool neg, .slice A xs.length c], .bool ok]) ∧ Own w' w.heap.size (.slice A xs.length c) xs ∧ Below w.heap.size w w'

theorem cell_past {w : World} {o : Obj} {n i : Nat} (hn : n < w.heap.size) : (w.alloc o).cell? ⟨n, i, none⟩ = w.cell? ⟨n, i, none⟩ := World.cell?_alloc_lt w o ⟨n, i, none⟩ hn

theorem Box.set {w : World} {g : Nat} {t : TypeId} {cs : Array Value} (h : Box w g t cs) (i : Nat) (u : Value) : Box (w.setCell ⟨g, i, none⟩ u) g t (cs.setIfInBounds i u) := heap_setCell_same w g i cs t u h
theorem Rd.drew {w : World} {A : Option Addr} {n : Nat} {xs : List Int} (h : Rd w w.heap.size A n xs) : Rd w.drew w.drew.heap.size A n xs := h

theorem Own.rd_marks {w : World} {lo : Nat} {A : Option Addr} {c n : Nat} (h : Own w lo (.slice A n c) (marks 1 n)) : Rd w w.heap.size A n (marks 1 n) := by
  have h' : Own w lo (.slice A (marks 1 n).length c) (marks 1 n) := by rw [marks_length]; exact h
  have h2 := h'.rd
  rw [marks_length] at h2
  exact h2
def GivesWholeIntOk (w : World) (neg : Bool) (xs : List Int) (i : Int) (ok : Bool) (e : Ending) (w' : World) : Prop :=
  ∃ A c, e = .returned (.tuple #[.agg #[.bool neg, .slice A xs.length c], .int .i64 i, .bool ok]) ∧ Own w' w.heap.size (.slice A xs.length c) xs ∧ Below w.heap.size w w'
def GivesIntOk (w : World) (i : Int) (ok : Bool) (e : Ending) (w' : World) : Prop := e = .returned (.tuple #[.int .i64 i, .bool ok]) ∧ Below w.heap.size w w'
def GivesInt (w : World) (i : Int) (e : Ending) (w' : World) : Prop := e = .returned (.int .i64 i) ∧ Below w.heap.size w w'
def GivesBool (w : World) (ok : Bool) (e : Ending) (w' : World) : Prop := e = .returned (.bool ok) ∧ Below w.heap.size w w'

theorem Rd.alloc {w : World} {B : Nat} {A : Option Addr} {n : Nat} {xs : List Int} (h : Rd w B A n xs) (o : Obj) : Rd (w.alloc o) B A n xs := by
  refine ⟨h.1, fun hn => ?_⟩
  obtain ⟨b, off, rfl, hb, hc⟩ := h.2 hn
  exact ⟨b, off, rfl, hb, fun k hk => (World.cell?_alloc_lt w o ⟨b, off + k, none⟩ (World.block_lt_of_cell? w _ (hc k hk))).trans (hc k hk)⟩

theorem Own.cap {w : World} {base n c : Nat} {A : Option Addr} {xs : List Int} (h : Own w base (.slice A n c) xs) : n ≤ c := by
  rcases h.2 with ⟨he, _⟩ | ⟨g, cap, cur, he, _, _, hnc, _⟩
  · simp only [Value.slice.injEq] at he; omega
  · simp only [Value.slice.injEq] at he; omega

/-- What lies below is read as before. -/
theorem bcell {W w1 : World} {B : Nat} (hb : Below B W w1) : (∀ b o, b < B → w1.cell? ⟨b, o, none⟩ = W.cell? ⟨b, o, none⟩) ∧ (∀ b o, b < B → w1.frozen? ⟨b, o, none⟩ = W.frozen? ⟨b, o, none⟩) :=
  ⟨fun b o h => hb.cell (p := ⟨b, o, none⟩) h, fun b o h => hb.frozen (p := ⟨b, o, none⟩) h⟩

end Go.Proofs.YtchglkcfolannabDoor
