/- Layer 2: the laws, walked. -/
import Derived.Test.YtdchooggindihaaLaws02
import Derived.Test.YtdchooggindihaaOpen
namespace Go.Proofs.Ytdchooggindihaa
open Go.ChangeShapes Go.WideShapes Go.ChangeAt Go.RowKit

end Go.Proofs.Ytdchooggindihaa
