/- Layer 14: the laws, walked: the example. -/
import Derived.Test.YtldhbgefpfmkmaaGreatJRingB
import Derived.Test.YtldhbgefpfmkmaaGreatJAdv4
import Derived.Test.YtldhbgefpfmkmaaGreatJNone
namespace Go.Proofs.YtldhbgefpfmkmaaGreat
open Go.ChangeShapes Go.WideShapes Go.ChangeAt Go.RowKit

end Go.Proofs.YtldhbgefpfmkmaaGreat
