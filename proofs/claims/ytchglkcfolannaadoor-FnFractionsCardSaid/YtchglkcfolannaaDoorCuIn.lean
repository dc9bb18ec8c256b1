/- (at a seat with fractions, over XFrGcd) l1All, cuGood, IsCubic, cuValue of the model (own work). -/
import Derived.Test.YtchglkcfolannaaDoorFrGcd
import Derived.IntWalk
namespace Go.Proofs.YtchglkcfolannaaDoor
open Go.RowKit Go.Joins

end Go.Proofs.YtchglkcfolannaaDoor
