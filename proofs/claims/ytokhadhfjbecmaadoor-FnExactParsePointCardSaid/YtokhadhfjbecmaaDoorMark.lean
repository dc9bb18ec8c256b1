import Derived.Test.YtokhadhfjbecmaaDoorMem
namespace Go.Proofs.YtokhadhfjbecmaaDoor
open Go.RowKit Go.Joins

end Go.Proofs.YtokhadhfjbecmaaDoor
