/- The table of limits, where XMem and XCuBox are the words for memory (in the place of XFrBox at such a seat). -/
import Derived.Test.YtoekhkppjccceaaDoorCuBox
namespace Go.Proofs.YtoekhkppjccceaaDoor
open Go.RowKit Go.Joins

end Go.Proofs.YtoekhkppjccceaaDoor
