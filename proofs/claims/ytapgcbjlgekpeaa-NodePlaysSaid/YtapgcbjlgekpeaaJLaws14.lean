/- Layer 14: the laws, walked: the example. -/
import Derived.Test.YtapgcbjlgekpeaaJRingB
import Derived.Test.YtapgcbjlgekpeaaJAdv4
import Derived.Test.YtapgcbjlgekpeaaJNone
namespace Go.Proofs.Ytapgcbjlgekpeaa
open Go.ChangeShapes Go.WideShapes Go.ChangeAt Go.RowKit

end Go.Proofs.Ytapgcbjlgekpeaa
