/- Layer 45: numbers that rise, by the reference. -/
import Derived.Test.YtildjnibdappnaaGreatJTune2
namespace Go.Proofs.YtildjnibdappnaaGreat
open Go.ChangeShapes Go.WideShapes Go.ChangeAt Go.RowKit

theorem Lad.step_one (a b : Int) : Lad.step a b (0 + 1) = 0 := by
  unfold Lad.step
  show Sat.floor _ ((1 : Int) - 1) = 0
  rfl

end Go.Proofs.YtildjnibdappnaaGreat
