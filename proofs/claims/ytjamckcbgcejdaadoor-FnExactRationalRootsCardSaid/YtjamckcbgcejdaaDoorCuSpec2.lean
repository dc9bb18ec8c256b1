/- The model's cuReal, RealRootCount, ReverseCubic (written by wip/gen/cuspec2.py). -/
import Derived.Test.YtjamckcbgcejdaaDoorCuSpec
namespace Go.Proofs.YtjamckcbgcejdaaDoor
open Go.RowKit Go.Joins

theorem below_sets4 {B b : Nat} {w0 W : World} (h : Below B w0 W) (hb : B ≤ b) (u v x y : Value) : Below B w0 ((((W.setCell ⟨b, 0, none⟩ u).setCell ⟨b, 1, none⟩ v).setCell ⟨b, 2, none⟩ x).setCell ⟨b, 3, none⟩ y) :=
  (((h.setCell (p := ⟨b, 0, none⟩) hb u).setCell (p := ⟨b, 1, none⟩) hb v).setCell (p := ⟨b, 2, none⟩) hb x).setCell (p := ⟨b, 3, none⟩) hb y

def cuRe (a b c d : Int) : Int := if 0 < cuDis a b c d then 3 else if cuDis a b c d < 0 ∨ b * b = 3 * a * c then 1 else 2

end Go.Proofs.YtjamckcbgcejdaaDoor
