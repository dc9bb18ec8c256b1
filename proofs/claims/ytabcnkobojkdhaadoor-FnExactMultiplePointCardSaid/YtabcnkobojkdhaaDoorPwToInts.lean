import Derived.Test.YtabcnkobojkdhaaDoorMem
namespace Go.Proofs.YtabcnkobojkdhaaDoor
open Go.RowKit Go.Joins

theorem Tryd.info3 : (Tryd.prog.info? 3).map (fun i => (i.zero, i.size, i.bytes)) = some (some (.int .i64 0), 1, 8) := by kernel_rfl

end Go.Proofs.YtabcnkobojkdhaaDoor
