/- Layer 2: the laws, walked. -/
import Derived.Test.YtcinfpgpldmkaaaLaws02
import Derived.Test.YtcinfpgpldmkaaaOpen
namespace Go.Proofs.Ytcinfpgpldmkaaa
open Go.ChangeShapes Go.WideShapes Go.ChangeAt Go.RowKit

end Go.Proofs.Ytcinfpgpldmkaaa
