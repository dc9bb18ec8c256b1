import Derived.Test.YtabcnkobojkdhaaMem
namespace Go.Proofs.Ytabcnkobojkdhaa
open Go.RowKit Go.Joins

end Go.Proofs.Ytabcnkobojkdhaa
