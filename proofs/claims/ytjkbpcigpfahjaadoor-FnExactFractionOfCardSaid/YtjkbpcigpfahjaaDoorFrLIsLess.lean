/- The core of the law of IsLess (written by wip/gen/frlaw.py): it answers true if the model and the program hand back the same. -/
import Derived.Test.YtjkbpcigpfahjaaDoorFrLaw0
import Derived.Deep.RegionHeld3
import Derived.Deep.DeepCutAuto
namespace Go.Proofs.YtjkbpcigpfahjaaDoor
open Go.RowKit Go.Joins

end Go.Proofs.YtjkbpcigpfahjaaDoor
