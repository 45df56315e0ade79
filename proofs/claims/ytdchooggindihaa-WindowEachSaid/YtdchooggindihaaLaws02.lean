/- The walks of layer 2's laws: what they call. -/
import Derived.Test.YtdchooggindihaaWide3
import Derived.Test.YtdchooggindihaaEach
namespace Go.Proofs.Ytdchooggindihaa
open Go.ChangeShapes Go.WideShapes Go.ChangeAt Go.RowKit

end Go.Proofs.Ytdchooggindihaa
