/- Layer 7: a ring of ints: its room, its length, a new one, what is pushed. -/
import Derived.Test.YtildjnibdappnaaTurn
namespace Go.Proofs.Ytildjnibdappnaa
open Go.ChangeShapes Go.WideShapes Go.ChangeAt Go.RowKit

theorem intInfo : (Try.prog.info? 3).map (fun i => (i.zero, i.size, i.bytes)) = some (some (.int .i64 0), 1, 8) := by kernel_rfl

end Go.Proofs.Ytildjnibdappnaa
