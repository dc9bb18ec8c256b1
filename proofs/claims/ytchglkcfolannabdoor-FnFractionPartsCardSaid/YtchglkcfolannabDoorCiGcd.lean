/- At seats that have fractions too: XFrGcd holds all that XCiGcd holds. -/
import Derived.Test.YtchglkcfolannabDoorFrGcd
import Derived.Test.YtchglkcfolannabDoorCuIn
namespace Go.Proofs.YtchglkcfolannabDoor
end Go.Proofs.YtchglkcfolannabDoor
