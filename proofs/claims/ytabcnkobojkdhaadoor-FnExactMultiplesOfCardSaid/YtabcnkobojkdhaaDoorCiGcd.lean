/- At seats that have fractions too: XFrGcd holds all that XCiGcd holds. -/
import Derived.Test.YtabcnkobojkdhaaDoorFrGcd
import Derived.Test.YtabcnkobojkdhaaDoorCuIn
namespace Go.Proofs.YtabcnkobojkdhaaDoor
end Go.Proofs.YtabcnkobojkdhaaDoor
