/- Layer 14: the laws, walked: the example. -/
import Derived.Test.YtildjnibdappnaaGreatJRingB
import Derived.Test.YtildjnibdappnaaGreatJAdv4
import Derived.Test.YtildjnibdappnaaGreatJNone
namespace Go.Proofs.YtildjnibdappnaaGreat
open Go.ChangeShapes Go.WideShapes Go.ChangeAt Go.RowKit

end Go.Proofs.YtildjnibdappnaaGreat
