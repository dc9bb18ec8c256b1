/- Rows that a call hands back (own words of XRsPrimes, without the residues), and the cells of a cubic (own work). -/
import Derived.Test.YtjjdjhehdobmnaaCiAt
import Derived.Test.YtjjdjhehdobmnaaRsAppend
namespace Go.Proofs.Ytjjdjhehdobmnaa
open Go.RowKit Go.Joins

/-- A call that hands back a new row and a bool. -/
def GivesRowOk (w : World) (xs : List Int) (ok : Bool) (e : Ending) (w' : World) : Prop :=
  ∃ A c, e = .returned (.tuple #[.slice A xs.length c, .bool ok]) ∧ Own w' w.heap.size (.slice A xs.length c) xs ∧ Below w.heap.size w w'
theorem own_nil (w : World) (base : Nat) : Own w base (.slice none 0 0) [] := World.ownsRow_nil w base 3 1
theorem rd_new (w : World) (x : Int) : Rd (w.alloc (.cells #[.int .i64 x] 3)) (w.heap.size + 1) (some ⟨w.heap.size, 0, none⟩) 1 [x] := by
  refine ⟨rfl, fun _ => ⟨w.heap.size, 0, rfl, by omega, fun k hk => ?_⟩⟩
  obtain rfl : k = 0 := by omega
  exact (Box.new w 3 #[.int .i64 x]).cell 0
theorem below_own {w0 w w' : World} {base : Nat} {v : Value} {xs : List Int} (hb : Below w0.heap.size w0 w) (ho : Own w base v xs) (hbase : w0.heap.size ≤ base) (hg : w.grownBy w' v.ownBlock) : Below w0.heap.size w0 w' :=
  hb.grown hg hb.size (fun k hk => by have := (World.ownsRow.lt ho k hk).1; omega)
theorem Box.own_aside {w w' : World} {g lo : Nat} {t : TypeId} {cs : Array Value} {v : Value} {xs : List Int} (h : Box w g t cs) (h' : Own w lo v xs) (hg : w.grownBy w' v.ownBlock) (ht : t ≠ 3) : Box w' g t cs :=
  h.aside h'.I hg ht

theorem sgn_cases (z : Int) : sgn z = -1 ∨ sgn z = 0 ∨ sgn z = 1 := by
  unfold sgn
  split
  · exact .inr (.inr rfl)
  · split
    · exact .inl rfl
    · exact .inr (.inl rfl)
/-- What is asked of the signs at k and at k + 1. -/
def CS (s t : Int) : Prop := s = 0 ∨ s * t < 0
instance (s t : Int) : Decidable (CS s t) := by unfold CS; infer_instance
def CB (a b c d k : Int) : Prop := CS (sgn (cuVal a b c d k 1)) (sgn (cuVal a b c d (k + 1) 1))
instance (a b c d k : Int) : Decidable (CB a b c d k) := by unfold CB; infer_instance
/-- The first j of the cells, from -1001 on. -/
def CLs (a b c d : Int) : Nat → List Int
  | 0 => []
  | j + 1 => if CB a b c d ((j : Int) - 1001) then CLs a b c d j ++ [(j : Int) - 1001] else CLs a b c d j
theorem CLs_len (a b c d : Int) : ∀ k, (CLs a b c d k).length ≤ k
  | 0 => Nat.le_refl 0
  | k + 1 => by
    have := CLs_len a b c d k
    rw [CLs]
    split
    · rw [List.length_append]; show (CLs a b c d k).length + 1 ≤ k + 1; omega
    · omega
theorem CLs_yes {a b c d : Int} {j : Nat} (h : CB a b c d ((j : Int) - 1001)) : CLs a b c d j ++ [(j : Int) - 1001] = CLs a b c d (j + 1) := by rw [CLs, if_pos h]
theorem CLs_no {a b c d : Int} {j : Nat} (h : ¬ CB a b c d ((j : Int) - 1001)) : CLs a b c d j = CLs a b c d (j + 1) := by rw [CLs, if_neg h]
end Go.Proofs.Ytjjdjhehdobmnaa
