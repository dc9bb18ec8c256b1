import Derived.Test.YtabcnkobojkdhaaDoorMem
namespace Go.Proofs.YtabcnkobojkdhaaDoor
open Go.RowKit Go.Joins

end Go.Proofs.YtabcnkobojkdhaaDoor
