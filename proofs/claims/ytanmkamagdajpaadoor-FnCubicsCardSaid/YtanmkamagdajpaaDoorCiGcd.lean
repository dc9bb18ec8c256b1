/- At seats that have fractions too: XFrGcd holds all that XCiGcd holds. -/
import Derived.Test.YtanmkamagdajpaaDoorFrGcd
import Derived.Test.YtanmkamagdajpaaDoorCuIn
namespace Go.Proofs.YtanmkamagdajpaaDoor
end Go.Proofs.YtanmkamagdajpaaDoor
