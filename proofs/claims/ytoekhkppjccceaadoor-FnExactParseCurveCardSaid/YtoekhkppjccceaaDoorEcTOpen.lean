/- The frame of a statement whose program lays the three tables of numerals, over curves. -/
import Derived.Test.YtoekhkppjccceaaDoorEcOpen
import Derived.Test.YtoekhkppjccceaaDoorCtPow
import Derived.Test.YtoekhkppjccceaaDoorTie
import Derived.Test.YtoekhkppjccceaaDoorCards
import Derived.ChangeVars
import Derived.LaidMore
import Derived.Lib.LaidTab
import Derived.Stop.LaidErr
import Derived.SevenTiedAt
import Derived.Stop.Joined
namespace Go.Proofs.YtoekhkppjccceaaDoor
open Go.ChangeShapes Go.WideShapes Go.ChangeAt Go.RowKit Go.Joins

theorem Tryd.cellsU64 : Tryd.prog.cellsOf 58 = 1 := by kernel_rfl
theorem Tryd.cellsPow : Tryd.prog.cellsOf 68 = 20 := by kernel_rfl
theorem Tryd.gPowType : (Tryd.prog.globals[1]?).map (·.type) = some 68 := by kernel_rfl

abbrev tabLaid : List (String × DataW Unit) := [("math/bits.deBruijn32tab", Rows.laid_math_bits_deBruijn32tab), ("math/bits.deBruijn64tab", Rows.laid_math_bits_deBruijn64tab), ("internal/strconv.uint64pow10", Rows.laid_internal_strconv_uint64pow10)]

/-- The door's own heap meets the condition. -/
theorem tabDoor (os : Os) (args : Array Value) : laidMetH Tryd.prog tabLaid ((World.doorLaid Tryd.prog 400 os).forCall (fun _ _ => 0) ⟨#[], args, []⟩).memory :=
  laidMetH_of_parts3 (fuel := 8) (laidMet_of_run' 8 (by kernel_rfl) (by kernel_rfl)) (by kernel_rfl) (by kernel_rfl)

theorem powTab {W : World} (h : laidMetH Tryd.prog tabLaid W) : Pow W := by
  rw [MakeChecks.laidMetH_plain _ _ _ (by kernel_rfl)] at h
  exact Lib.tabIs_of_head Tryd.gPow Tryd.gPowType Tryd.underlying68 Tryd.underlying58 Tryd.cellsU64 Tryd.cellsPow h.tail.tail
end Go.Proofs.YtoekhkppjccceaaDoor
