/- At seats that have fractions too: XFrGcd holds all that XCiGcd holds. -/
import Derived.Test.YtokhadhfjbecmaaDoorFrGcd
import Derived.Test.YtokhadhfjbecmaaDoorCuIn
namespace Go.Proofs.YtokhadhfjbecmaaDoor
end Go.Proofs.YtokhadhfjbecmaaDoor
