/- Layer 27: tasks as memory; their methods; what is done. -/
import Derived.Test.YtapgcbjlgekpeaaJBase
import Derived.WalkSpells
namespace Go.Proofs.Ytapgcbjlgekpeaa
open Go.ChangeShapes Go.WideShapes Go.ChangeAt Go.RowKit

/-- A toy: left, gap, phase. -/
structure Toy where
  left : Int
  gap : Int
  phase : Int
deriving Inhabited, DecidableEq
def Toy.In (t : Toy) : Prop := I64 t.left ∧ I64 t.gap ∧ I64 t.phase
def Toy.ready (t : Toy) (used : Int) : Bool := if t.left < 1 then false else if t.gap < 2 then true else !decide ((used + t.phase) % t.gap = 0)

end Go.Proofs.Ytapgcbjlgekpeaa
