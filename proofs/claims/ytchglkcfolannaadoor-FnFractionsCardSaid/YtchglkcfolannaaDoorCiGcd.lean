/- At seats that have fractions too: XFrGcd holds all that XCiGcd holds. -/
import Derived.Test.YtchglkcfolannaaDoorFrGcd
import Derived.Test.YtchglkcfolannaaDoorCuIn
namespace Go.Proofs.YtchglkcfolannaaDoor
end Go.Proofs.YtchglkcfolannaaDoor
