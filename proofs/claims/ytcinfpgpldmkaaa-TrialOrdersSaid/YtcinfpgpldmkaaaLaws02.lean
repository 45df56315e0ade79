/- The walks of layer 2's laws: what they call. -/
import Derived.Test.YtcinfpgpldmkaaaWide3
import Derived.Test.YtcinfpgpldmkaaaEach
namespace Go.Proofs.Ytcinfpgpldmkaaa
open Go.ChangeShapes Go.WideShapes Go.ChangeAt Go.RowKit

end Go.Proofs.Ytcinfpgpldmkaaa
