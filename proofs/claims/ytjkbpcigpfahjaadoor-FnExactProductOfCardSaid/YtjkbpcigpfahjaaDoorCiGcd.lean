/- At seats that have fractions too: XFrGcd holds all that XCiGcd holds. -/
import Derived.Test.YtjkbpcigpfahjaaDoorFrGcd
import Derived.Test.YtjkbpcigpfahjaaDoorCuIn
namespace Go.Proofs.YtjkbpcigpfahjaaDoor
end Go.Proofs.YtjkbpcigpfahjaaDoor
