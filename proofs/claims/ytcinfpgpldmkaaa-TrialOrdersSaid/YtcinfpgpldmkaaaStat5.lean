/- Layer 9: what is told is right, by the reference. -/
import Derived.Test.YtcinfpgpldmkaaaStat4
namespace Go.Proofs.Ytcinfpgpldmkaaa
open Go.ChangeShapes Go.WideShapes Go.ChangeAt Go.RowKit

end Go.Proofs.Ytcinfpgpldmkaaa
