/- Contracts of layer 13 (control), more; and of its reference. -/
import Derived.Test.YtapgcbjlgekpeaaJControl
import Derived.Test.YtapgcbjlgekpeaaJBase
namespace Go.Proofs.Ytapgcbjlgekpeaa
open Go.ChangeShapes Go.WideShapes Go.ChangeAt Go.RowKit

theorem polRow (p : Pol) : (Try.prog.info? 25).map (·.size) = some (#[.int .i64 p.mn, .int .i64 p.mx, .int .i64 p.tg, .int .i64 p.tl, .int .i64 p.wi, .int .i64 p.ho] : Array Value).size := polInfo

end Go.Proofs.Ytapgcbjlgekpeaa
