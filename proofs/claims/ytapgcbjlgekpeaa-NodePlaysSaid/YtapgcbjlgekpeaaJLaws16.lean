/- Layer 16: the laws, walked. -/
import Derived.Test.YtapgcbjlgekpeaaJDec
import Derived.Test.YtapgcbjlgekpeaaJBase
namespace Go.Proofs.Ytapgcbjlgekpeaa
open Go.ChangeShapes Go.WideShapes Go.ChangeAt Go.RowKit

theorem stab_samps {q : Option Addr} {l : List Samp} : Stab (fun w' => Samps w' q l) := fun _ _ h hb => h.below hb

def usualPol : Pol := ⟨1, 10, 100, 100, 5, 3⟩

end Go.Proofs.Ytapgcbjlgekpeaa
