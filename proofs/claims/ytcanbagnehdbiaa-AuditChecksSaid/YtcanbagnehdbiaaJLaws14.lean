/- Layer 14: the laws, walked: the example. -/
import Derived.Test.YtcanbagnehdbiaaJRingB
import Derived.Test.YtcanbagnehdbiaaJAdv4
import Derived.Test.YtcanbagnehdbiaaJNone
namespace Go.Proofs.Ytcanbagnehdbiaa
open Go.ChangeShapes Go.WideShapes Go.ChangeAt Go.RowKit

end Go.Proofs.Ytcanbagnehdbiaa
