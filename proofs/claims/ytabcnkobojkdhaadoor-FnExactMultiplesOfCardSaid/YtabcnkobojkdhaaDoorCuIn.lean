/- (at a seat with fractions, over XFrGcd) l1All, cuGood, IsCubic, cuValue of the model (own work). -/
import Derived.Test.YtabcnkobojkdhaaDoorFrGcd
import Derived.IntWalk
namespace Go.Proofs.YtabcnkobojkdhaaDoor
open Go.RowKit Go.Joins

end Go.Proofs.YtabcnkobojkdhaaDoor
