/- Primes up to a number: the model's and the program's, and the law. -/
import Derived.Test.YtmknmjkcnlennaaRsOne
import Derived.Test.YtmknmjkcnlennaaEq
import Derived.Test.YtmknmjkcnlennaaMark
import Derived.Test.YtmknmjkcnlennaaRsAppend
namespace Go.Proofs.Ytmknmjkcnlennaa
open Go.RowKit Go.Joins

/-- A call that hands back a new row and a bool. -/
def GivesRowOk (w : World) (xs : List Int) (ok : Bool) (e : Ending) (w' : World) : Prop :=
  ∃ A c, e = .returned (.tuple #[.slice A xs.length c, .bool ok]) ∧ Own w' w.heap.size (.slice A xs.length c) xs ∧ Below w.heap.size w w'
theorem own_nil (w : World) (base : Nat) : Own w base (.slice none 0 0) [] := World.ownsRow_nil w base 3 1
theorem rd_new (w : World) (x : Int) : Rd (w.alloc (.cells #[.int .i64 x] 3)) (w.heap.size + 1) (some ⟨w.heap.size, 0, none⟩) 1 [x] := by
  refine ⟨rfl, fun _ => ⟨w.heap.size, 0, rfl, by omega, fun k hk => ?_⟩⟩
  obtain rfl : k = 0 := by omega
  exact (Box.new w 3 #[.int .i64 x]).cell 0
theorem below_own {w0 w w' : World} {base : Nat} {v : Value} {xs : List Int} (hb : Below w0.heap.size w0 w) (ho : Own w base v xs) (hbase : w0.heap.size ≤ base) (hg : w.grownBy w' v.ownBlock) : Below w0.heap.size w0 w' :=
  hb.grown hg hb.size (fun k hk => by have := (World.ownsRow.lt ho k hk).1; omega)

open Classical in
/-- The primes up to k. -/
noncomputable def PL : Nat → List Int
  | 0 => []
  | k + 1 => if Pr (k + 1) then PL k ++ [((k + 1 : Nat) : Int)] else PL k
theorem PL_len : ∀ k, (PL k).length ≤ k
  | 0 => Nat.le_refl 0
  | k + 1 => by
    have := PL_len k
    rw [PL]
    split
    · rw [List.length_append]; show (PL k).length + 1 ≤ k + 1; omega
    · omega
theorem PL_one : PL 1 = [] := by
  rw [PL, if_neg (fun h => by have := h.1; omega)]
  rfl
theorem PL_yes {k : Nat} (h2 : 2 ≤ k) (h : Pr k) : PL (k - 1) ++ [(k : Int)] = PL k := by
  obtain ⟨j, rfl⟩ : ∃ j, k = j + 1 := ⟨k - 1, by omega⟩
  rw [PL, if_pos h]
  rfl
theorem PL_no {k : Nat} (h2 : 2 ≤ k) (h : ¬ Pr k) : PL (k - 1) = PL k := by
  obtain ⟨j, rfl⟩ : ∃ j, k = j + 1 := ⟨k - 1, by omega⟩
  rw [PL, if_neg h]
  rfl

end Go.Proofs.Ytmknmjkcnlennaa
